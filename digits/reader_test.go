package digits_test

import (
	"bytes"
	"math"
	"strings"
	"testing"

	"muslin/api"
	"muslin/digits"
)

const maxCode = 2 * api.MaxNumber

// unfolded is the number that a code stands for, counted on both sides of 0.
func unfolded(code int) int {
	if code%2 == 0 {
		return code / 2
	}
	return -(code/2 + 1)
}

// silent fails unless the reader tells this error, and nothing else, whatever it is asked.
func silent(t *testing.T, r *digits.Reader, want api.Errno) {
	t.Helper()
	for range 2 {
		if n := r.U(); n != 0 {
			t.Errorf("U: %d", n)
		}
		if n := r.S(); n != 0 {
			t.Errorf("S: %d", n)
		}
		if x := r.Text(100); x != "" {
			t.Errorf("Text: %q", x)
		}
		if x := r.Text(-1); x != "" {
			t.Errorf("Text: %q", x)
		}
		for _, n := range []int{math.MinInt, -1, 0, 1, math.MaxInt} {
			if b := r.Raw(n); len(b) != 0 {
				t.Errorf("Raw(%d): %X", n, b)
			}
		}
		if r.Left() != 0 || r.Err() != want {
			t.Errorf("left %d, %v, not %v", r.Left(), r.Err(), want)
		}
		r.Fail(api.OK)
		r.Fail(api.ErrFull)
	}
}

// looked holds what U, S, Text and Raw take off b to what read tells of it.
func looked(t *testing.T, b []byte) {
	t.Helper()
	n, size, e := read(b, api.MaxNumber)
	r := digits.New(b)
	if got := r.U(); got != n || r.Err() != e || e == api.OK && r.Left() != len(b)-size || e != api.OK && r.Left() != 0 {
		t.Fatalf("U of %X: %d, %v, left %d; not %d, %v", b, got, r.Err(), r.Left(), n, e)
	}
	code, size, e := read(b, maxCode)
	r = digits.New(b)
	if got := r.S(); got != unfolded(code) || r.Err() != e || e == api.OK && r.Left() != len(b)-size || e != api.OK && r.Left() != 0 {
		t.Fatalf("S of %X: %d, %v, left %d; not %d, %v", b, got, r.Err(), r.Left(), unfolded(code), e)
	}
	for _, most := range []int{-1, 0, 1, 2, 300, math.MaxInt} {
		lookedText(t, b, most)
	}
}

func lookedText(t *testing.T, b []byte, most int) {
	t.Helper()
	n, size, e := read(b, api.MaxNumber)
	want, left := "", 0
	switch {
	case e != api.OK:
	case n > most:
		e = api.ErrLimit
	case n > len(b)-size:
		e = api.ErrTrunc
	default:
		want, left = string(b[size:size+n]), len(b)-size-n
	}
	r := digits.New(b)
	if got := r.Text(most); got != want || r.Err() != e || r.Left() != left {
		t.Fatalf("Text(%d) of %X: %q, %v, left %d; not %q, %v, %d", most, b, got, r.Err(), r.Left(), want, e, left)
	}
}

// P1.2: the chapter's examples.
func TestReadExamples(t *testing.T) {
	for _, c := range []struct {
		b    []byte
		want api.Errno
	}{
		{[]byte{0x80, 0x7F}, api.ErrSyntax},
		{[]byte{0xFF, 0x00}, api.ErrSyntax},
		{[]byte{0x80}, api.ErrTrunc},
	} {
		r := digits.New(c.b)
		if n := r.U(); n != 0 || r.Err() != c.want {
			t.Errorf("U of %X: %d, %v", c.b, n, r.Err())
		}
		silent(t, r, c.want)
	}
	r := digits.New([]byte{0x02, 0x61, 0x62, 0x05})
	if x, n := r.Text(2), r.U(); x != "ab" || n != 5 || r.Left() != 0 || r.Err() != api.OK {
		t.Errorf("%q, %d, left %d, %v", x, n, r.Left(), r.Err())
	}
}

// P1.2: bytes that are no number, the first error that is looked for among them.
func TestNoNumber(t *testing.T) {
	for _, c := range []struct {
		name   string
		b      []byte
		eu, es api.Errno
	}{
		{"none left", nil, api.ErrTrunc, api.ErrTrunc},
		{"eight bits 1, alone", []byte{0xFF}, api.ErrSyntax, api.ErrSyntax},
		{"eight bits 1, and more", []byte{0xFF, 1, 2, 3, 4, 5, 6, 7, 8, 9}, api.ErrSyntax, api.ErrSyntax},
		{"one missing of 8", []byte{0xFE, 0x1F, 0, 0, 0, 0, 0}, api.ErrTrunc, api.ErrTrunc},
		{"missing, and too long", []byte{0xC0, 0x00}, api.ErrTrunc, api.ErrTrunc},
		{"missing, and too great", []byte{0xFE, 0xFF}, api.ErrTrunc, api.ErrTrunc},
		{"0 in 2 bytes", []byte{0x80, 0x00}, api.ErrSyntax, api.ErrSyntax},
		{"16383 in 3 bytes", []byte{0xC0, 0x3F, 0xFF}, api.ErrSyntax, api.ErrSyntax},
		{"2^49 - 1 in 8 bytes", []byte{0xFE, 0x01, 0xFF, 0xFF, 0xFF, 0xFF, 0xFF, 0xFF}, api.ErrSyntax, api.ErrSyntax},
		{"MaxNumber", []byte{0xFE, 0x1F, 0xFF, 0xFF, 0xFF, 0xFF, 0xFF, 0xFF}, api.OK, api.OK},
		{"MaxNumber and 1", []byte{0xFE, 0x20, 0, 0, 0, 0, 0, 0}, api.ErrSyntax, api.OK},
		{"twice MaxNumber", []byte{0xFE, 0x3F, 0xFF, 0xFF, 0xFF, 0xFF, 0xFF, 0xFE}, api.ErrSyntax, api.OK},
		{"twice MaxNumber, and 1", []byte{0xFE, 0x3F, 0xFF, 0xFF, 0xFF, 0xFF, 0xFF, 0xFF}, api.ErrSyntax, api.ErrSyntax},
		{"2^56 - 1", []byte{0xFE, 0xFF, 0xFF, 0xFF, 0xFF, 0xFF, 0xFF, 0xFF}, api.ErrSyntax, api.ErrSyntax},
	} {
		r := digits.New(c.b)
		if n := r.U(); r.Err() != c.eu || c.eu != api.OK && n != 0 {
			t.Errorf("%s: U: %d, %v", c.name, n, r.Err())
		}
		r = digits.New(c.b)
		if n := r.S(); r.Err() != c.es || c.es != api.OK && n != 0 {
			t.Errorf("%s: S: %d, %v", c.name, n, r.Err())
		}
	}
}

// P1.2: whatever bytes come (W6): all of up to two, and longer ones of each first byte.
func TestWhateverBytes(t *testing.T) {
	looked(t, nil)
	for first := range 256 {
		looked(t, []byte{byte(first)})
		for second := range 256 {
			looked(t, []byte{byte(first), byte(second)})
		}
		for _, fill := range []byte{0x00, 0x01, 0x7F, 0x80, 0xFF} {
			for _, second := range []byte{0x00, 0x01, 0x02, 0x1F, 0x20, 0x3F, 0x40, 0x80, 0xFF} {
				for size := 3; size <= 9; size++ {
					b := bytes.Repeat([]byte{fill}, size)
					b[0], b[1] = byte(first), second
					looked(t, b)
				}
			}
		}
	}
}

// P1.2: errors of Text, in their order.
func TestNoText(t *testing.T) {
	for _, c := range []struct {
		name string
		b    []byte
		most int
		want api.Errno
	}{
		{"no number", nil, 5, api.ErrTrunc},
		{"a torn number, and nothing may be", []byte{0x80}, -1, api.ErrTrunc},
		{"a wrong number, and nothing may be", []byte{0x80, 0x01}, -1, api.ErrSyntax},
		{"above most", []byte{0x03, 1, 2, 3}, 2, api.ErrLimit},
		{"above most, and too few left", []byte{0x03, 1}, 2, api.ErrLimit},
		{"too few left", []byte{0x03, 1, 2}, 3, api.ErrTrunc},
		{"nothing at all, and less may be", []byte{0x00}, -1, api.ErrLimit},
		{"nothing, and the least may be", []byte{0x00}, math.MinInt, api.ErrLimit},
		{"far too few left", []byte{0xFE, 0x1F, 0xFF, 0xFF, 0xFF, 0xFF, 0xFF, 0xFF, 1}, math.MaxInt, api.ErrTrunc},
		{"a number that is too great", []byte{0xFE, 0x20, 0, 0, 0, 0, 0, 0, 1}, math.MaxInt, api.ErrSyntax},
	} {
		r := digits.New(c.b)
		if x := r.Text(c.most); x != "" || r.Err() != c.want {
			t.Errorf("%s: %q, %v", c.name, x, r.Err())
		}
		silent(t, r, c.want)
	}
}

// P1.2: most alone says how long a text may be that is read.
func TestTextAsLongAsMost(t *testing.T) {
	for _, n := range []int{0, 1, 127, 128, 65535, 65536, 70000} {
		x := strings.Repeat("y", n)
		b := append(spelt(n), x...)
		r := digits.New(append(b, 7))
		if got := r.Text(n); got != x || r.Err() != api.OK || r.Left() != 1 {
			t.Errorf("a text of %d bytes: %d, %v, left %d", n, len(got), r.Err(), r.Left())
		}
		r = digits.New(b)
		if got := r.Text(n - 1); got != "" || r.Err() != api.ErrLimit {
			t.Errorf("a text of %d bytes, one too long: %d, %v", n, len(got), r.Err())
		}
	}
}

// P1.2: Raw.
func TestRaw(t *testing.T) {
	b := []byte{1, 2, 3, 4}
	r := digits.New(b)
	if x := r.Raw(0); len(x) != 0 || r.Left() != 4 || r.Err() != api.OK {
		t.Errorf("Raw(0): %X, left %d, %v", x, r.Left(), r.Err())
	}
	if x := r.Raw(3); !bytes.Equal(x, []byte{1, 2, 3}) || r.Left() != 1 {
		t.Errorf("Raw(3): %X, left %d", x, r.Left())
	}
	if x := r.Raw(1); !bytes.Equal(x, []byte{4}) || r.Left() != 0 || r.Err() != api.OK {
		t.Errorf("Raw(1): %X, left %d, %v", x, r.Left(), r.Err())
	}
	if x := r.Raw(0); len(x) != 0 || r.Err() != api.OK {
		t.Errorf("Raw(0) at the end: %X, %v", x, r.Err())
	}
	for n, want := range map[int]api.Errno{-1: api.ErrArg, math.MinInt: api.ErrArg, 5: api.ErrTrunc, math.MaxInt: api.ErrTrunc} {
		r := digits.New(b)
		if x := r.Raw(n); len(x) != 0 || r.Err() != want {
			t.Errorf("Raw(%d): %X, %v", n, x, r.Err())
		}
		silent(t, r, want)
	}
	r = digits.New(nil)
	if x := r.Raw(-1); len(x) != 0 || r.Err() != api.ErrArg {
		t.Errorf("Raw(-1) of none: %X, %v", x, r.Err())
	}
}

// P1.3: the first error stays, one that is handed in too.
func TestFail(t *testing.T) {
	r := digits.New([]byte{5, 6})
	r.Fail(api.OK)
	if r.Err() != api.OK || r.Left() != 2 || r.U() != 5 {
		t.Errorf("Fail(OK): %v, left %d", r.Err(), r.Left())
	}
	r.Fail(api.ErrValue)
	if r.Err() != api.ErrValue || r.Left() != 0 {
		t.Errorf("Fail(ErrValue): %v, left %d", r.Err(), r.Left())
	}
	silent(t, r, api.ErrValue)
	for _, e := range []api.Errno{-1, 1, 4711} {
		r = digits.New([]byte{5})
		r.Fail(e)
		silent(t, r, e)
	}
}

// P1.3: a reader of nothing is one; a nil one and a zero one are none.
func TestReadersThatAreNone(t *testing.T) {
	for _, b := range [][]byte{nil, {}} {
		if r := digits.New(b); r == nil || r.Err() != api.OK || r.Left() != 0 {
			t.Errorf("New of nothing: %v, left %d", r.Err(), r.Left())
		}
	}
	silent(t, nil, api.ErrNil)
	silent(t, &digits.Reader{}, api.ErrNil)
	var zero digits.Reader
	zero.Fail(api.ErrValue)
	silent(t, &zero, api.ErrNil)
}

// P1.3, P1.4: a reader has a copy; what was handed in is as it was, its spare room too; what is answered is new.
func TestReaderKeepsToItself(t *testing.T) {
	room := []byte{0x81, 0x00, 0x02, 'a', 'b', 9, 9, 9, 42, 43}
	was := bytes.Clone(room)
	r := digits.New(room[:8])
	for i := range room {
		room[i] ^= 0xFF
	}
	turned := bytes.Clone(room)
	if n := r.U(); n != 256 {
		t.Errorf("U: %d", n)
	}
	if x := r.Text(9); x != "ab" {
		t.Errorf("Text: %q", x)
	}
	got := r.Raw(2)
	if !bytes.Equal(got, was[5:7]) {
		t.Errorf("Raw: %X", got)
	}
	_ = append(got, 1)
	if n := r.U(); n != 9 || r.Left() != 0 || r.Err() != api.OK {
		t.Errorf("U behind Raw: %d, left %d, %v", n, r.Left(), r.Err())
	}
	if !bytes.Equal(room, turned) {
		t.Errorf("what was handed in: %X, not %X", room, turned)
	}
}

// P1.3: two readers of the same bytes don't know of each other (R2).
func TestTwoReaders(t *testing.T) {
	b := []byte{1, 2, 3}
	one, two := digits.New(b), digits.New(b)
	one.U()
	one.Fail(api.ErrSum)
	if n := two.U(); n != 1 || two.Left() != 2 || two.Err() != api.OK {
		t.Errorf("%d, left %d, %v", n, two.Left(), two.Err())
	}
}

// P1.5: what was written, one behind the other, is read as it was.
func TestReadAsWritten(t *testing.T) {
	var all []byte
	texts := []string{"", "a", "\x00\xff", "été", strings.Repeat("z", 200), strings.Repeat("z", 65535)}
	for i, n := range edges() {
		all = append(all, u(t, n)...)
		all = append(all, text(t, texts[i%len(texts)])...)
		all = append(all, s(t, -n)...)
		all = append(all, s(t, n)...)
	}
	tail := []byte{0xFF, 0x80, 3}
	r := digits.New(append(all, tail...))
	for i, n := range edges() {
		if got := r.U(); got != n {
			t.Fatalf("U: %d, not %d", got, n)
		}
		if got := r.Text(65535); got != texts[i%len(texts)] {
			t.Fatalf("Text %d: %d bytes", i, len(got))
		}
		if got := r.S(); got != -n {
			t.Fatalf("S: %d, not %d", got, -n)
		}
		if got := r.S(); got != n {
			t.Fatalf("S: %d, not %d", got, n)
		}
	}
	if r.Left() != len(tail) || !bytes.Equal(r.Raw(len(tail)), tail) || r.Err() != api.OK {
		t.Errorf("left %d, %v", r.Left(), r.Err())
	}
}

// again fails unless what is read of b, written again, are the bytes that were taken off.
func again(t *testing.T, b []byte) {
	t.Helper()
	r := digits.New(b)
	if n := r.U(); r.Err() == api.OK && !bytes.Equal(u(t, n), b[:len(b)-r.Left()]) {
		t.Fatalf("U of %X: %d", b, n)
	}
	r = digits.New(b)
	if n := r.S(); r.Err() == api.OK && !bytes.Equal(s(t, n), b[:len(b)-r.Left()]) {
		t.Fatalf("S of %X: %d", b, n)
	}
	r = digits.New(b)
	if x := r.Text(65535); r.Err() == api.OK && !bytes.Equal(text(t, x), b[:len(b)-r.Left()]) {
		t.Fatalf("Text of %X: %q", b, x)
	}
}

// P1.5: what was read, written again.
func TestWrittenAsRead(t *testing.T) {
	for first := range 256 {
		for second := range 256 {
			again(t, []byte{byte(first), byte(second)})
			again(t, []byte{byte(first), byte(second), 0x00, 0xFF, 0x80, 0x7F, 0x01, 0xFE, 0x00})
		}
	}
}

// P1.2, P1.5 (W6): the same, of bytes that a fuzzer looks for.
func FuzzReader(f *testing.F) {
	f.Add([]byte{})
	f.Add([]byte{0x02, 0x61, 0x62, 0x05})
	f.Add([]byte{0xFE, 0x1F, 0xFF, 0xFF, 0xFF, 0xFF, 0xFF, 0xFF, 0xFF})
	f.Fuzz(func(t *testing.T, b []byte) {
		looked(t, b)
		again(t, b)
	})
}
