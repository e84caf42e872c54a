package value

import (
	"slices"

	"muslin/api"
	"muslin/digits"
	"muslin/policy"
	"muslin/veil"
)

// CheckAttr tells whether an attribute may be.
func CheckAttr(a api.Attr) api.Errno {
	if !policy.IsName(a.Name) || veil.Check(a.Label) != api.OK {
		return api.ErrValue
	}
	return Check(a.Value)
}

// Attrs tells a list of attributes as bytes.
func Attrs(l []api.Attr) ([]byte, api.Errno) {
	if !listMayBe(l) {
		return nil, api.ErrValue
	}
	b, _ := digits.U(len(l))
	for _, a := range l {
		b = append(b, attr(a)...)
	}
	return b, api.OK
}

// TakeAttrs takes a list's bytes off a reader, which keeps what was wrong with them.
func TakeAttrs(r *digits.Reader) []api.Attr {
	l := list(r, api.MaxAttrs, func() api.Attr {
		name := r.Text(api.MaxName)
		label := veil.Take(r)
		return api.Attr{Name: name, Label: label, Value: Take(r)}
	})
	if !listMayBe(l) {
		r.Fail(api.ErrSyntax)
		return nil
	}
	return l
}

// listMayBe tells whether a list may be.
func listMayBe(l []api.Attr) bool {
	if len(l) > api.MaxAttrs {
		return false
	}
	for i, a := range l {
		if CheckAttr(a) != api.OK || i > 0 && l[i-1].Name >= a.Name {
			return false
		}
	}
	return true
}

// attr tells an attribute that may be as bytes.
func attr(a api.Attr) []byte {
	name, _ := digits.Text(a.Name)
	label, _ := veil.Bytes(a.Label)
	v, _ := Bytes(a.Value)
	return slices.Concat(name, label, v)
}

// list takes off how many there are, most of them at most, and each of them; nothing, if the reader has an error then.
func list[T any](r *digits.Reader, most int, one func() T) []T {
	many := r.U()
	if many > most {
		r.Fail(api.ErrSyntax)
	}
	var l []T
	for len(l) < many && r.Err() == api.OK {
		l = append(l, one())
	}
	if r.Err() != api.OK {
		return nil
	}
	return l
}
