package digits

import (
	"bytes"

	"muslin/api"
)

// Reader takes numbers and texts off bytes, and keeps the first error.
type Reader struct {
	made bool // a zero reader is none
	left []byte
	err  api.Errno
}

// New makes a reader of a copy of b.
func New(b []byte) *Reader {
	return &Reader{made: true, left: bytes.Clone(b)}
}

// U takes off a number from 0 on.
func (r *Reader) U() int {
	return take(r, r.number, api.MaxNumber)
}

// S takes off any number.
func (r *Reader) S() int {
	return unfold(take(r, r.number, maxCode))
}

// Text takes off a text of so many bytes at most.
func (r *Reader) Text(most int) string {
	return string(take(r, r.text, most))
}

// Raw takes off so many bytes.
func (r *Reader) Raw(n int) []byte {
	return take(r, r.raw, n)
}

// Fail keeps an error, if it is the first one.
func (r *Reader) Fail(e api.Errno) {
	if e == api.OK || r.Err() != api.OK {
		return
	}
	r.err, r.left = e, nil
}

// Err tells the first error.
func (r *Reader) Err() api.Errno {
	if r == nil || !r.made {
		return api.ErrNil
	}
	return r.err
}

// Left tells how many bytes are left; none are with an error.
func (r *Reader) Left() int {
	if r.Err() != api.OK {
		return 0
	}
	return len(r.left)
}

// take does a step of a reader, so that no step is done behind an error, and none tells anything beside its own.
func take[T any](r *Reader, step func(int) (T, api.Errno), with int) T {
	var none T
	if r.Err() != api.OK {
		return none
	}
	out, e := step(with)
	if e != api.OK {
		r.Fail(e)
		return none
	}
	return out
}

// number takes off one from 0 to most.
func (r *Reader) number(most int) (int, api.Errno) {
	if len(r.left) == 0 {
		return 0, api.ErrTrunc
	}
	size := sizeTold(r.left[0])
	// Eight bits 1 tell no size, so that it can't be said that bytes are missing.
	if size > maxSize {
		return 0, api.ErrSyntax
	}
	if size > len(r.left) {
		return 0, api.ErrTrunc
	}
	n := int(r.left[0] & (allOnes >> size))
	for i := range size - 1 {
		n = n<<8 | int(r.left[i+1])
	}
	if sizeOf(n) != size || n > most {
		return 0, api.ErrSyntax
	}
	r.left = r.left[size:]
	return n, api.OK
}

// text takes off the bytes of a text, and how many there are ahead of them.
func (r *Reader) text(most int) ([]byte, api.Errno) {
	size, e := r.number(api.MaxNumber)
	if e != api.OK {
		return nil, e
	}
	if size > most {
		return nil, api.ErrLimit
	}
	return r.raw(size)
}

// raw takes off n bytes.
func (r *Reader) raw(n int) ([]byte, api.Errno) {
	if n < 0 {
		return nil, api.ErrArg
	}
	if n > len(r.left) {
		return nil, api.ErrTrunc
	}
	out := bytes.Clone(r.left[:n])
	r.left = r.left[n:]
	return out, api.OK
}
