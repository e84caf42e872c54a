package batch

import (
	"slices"

	"muslin/api"
	"muslin/digits"
	"muslin/policy"
	"muslin/value"
)

// span tells a span as bytes.
func span(s api.Span) ([]byte, api.Errno) {
	if !mayBe(s) {
		return nil, api.ErrBatch
	}
	attrs, e := value.Attrs(s.Attrs)
	if e != api.OK {
		return nil, api.ErrBatch
	}
	numbers := fields(digits.U, s.Trace, s.ID, s.Parent, s.Start, s.Length)
	texts := fields(digits.Text, s.Service, s.Op, s.Subject)
	return slices.Concat(numbers, texts, attrs), api.OK
}

// takeSpan takes a span off a reader, which keeps what was wrong; whether the span may be is not looked at.
func takeSpan(r *digits.Reader) api.Span {
	var s api.Span
	for _, n := range [...]*int{&s.Trace, &s.ID, &s.Parent, &s.Start, &s.Length} {
		*n = r.U()
	}
	for _, t := range [...]*string{&s.Service, &s.Op, &s.Subject} {
		*t = r.Text(api.MaxBytes)
	}
	s.Attrs = value.TakeAttrs(r)
	return s
}

// mayBe tells whether a span may be, but for its attributes.
func mayBe(s api.Span) bool {
	return within(s.Trace, 1, api.MaxNumber) && within(s.ID, 1, api.MaxNumber) && within(s.Parent, 0, api.MaxNumber) &&
		policy.IsName(s.Service) && policy.IsName(s.Op) &&
		// The sum itself could be past the greatest int.
		within(s.Start, 0, api.MaxNumber) && within(s.Length, 0, api.MaxNumber-s.Start) &&
		len(s.Subject) <= api.MaxBytes
}

// within tells whether a number is from one to another.
func within(n, from, to int) bool { return from <= n && n <= to }

// fields tells fields, all of them such as may be, as bytes.
func fields[T any](write func(T) ([]byte, api.Errno), all ...T) []byte {
	var b []byte
	for _, one := range all {
		x, _ := write(one)
		b = append(b, x...)
	}
	return b
}
