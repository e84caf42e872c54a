package value_test

import (
	"bytes"
	"math"
	"math/rand"
	"slices"
	"strings"
	"testing"

	"muslin/api"
	"muslin/digits"
	"muslin/value"
)

// number is an int, text bytes, truth a bool.
func number(n int) api.Value  { return api.Value{Kind: api.KindInt, N: n} }
func text(s string) api.Value { return api.Value{Kind: api.KindBytes, B: s} }
func truth(n int) api.Value   { return api.Value{Kind: api.KindBool, N: n} }
func of(kind, n int, s string) api.Value {
	return api.Value{Kind: kind, N: n, B: s}
}

// full is a text that is as long as may be, over is longer by a byte.
var (
	full = strings.Repeat("x", api.MaxBytes)
	over = full + "x"
)

// some are values that may be, as they stand.
var some = []api.Value{
	number(-api.MaxNumber), number(-api.MaxNumber + 1), number(-65), number(-64), number(-1), number(0), number(1), number(2), number(63), number(64), number(128), number(api.MaxNumber - 1), number(api.MaxNumber),
	text(""), text("\x00"), text("\x00\x01"), text("a"), text("a\x00"), text("aa"), text("ab"), text("b"), text(full[1:]), text(full), text("\xc3\xa9"), text("\xff"), text("\xff\x00"),
	truth(0), truth(1),
}

// none are values that may not be, as they stand.
var none = []api.Value{
	of(math.MinInt, 0, ""), of(-1, 0, ""), of(-1, 1, ""), of(0, -1, ""), of(0, 0, ""), of(0, 0, "a"), of(0, 1, ""),
	of(1, math.MinInt, ""), of(1, -api.MaxNumber-1, ""), of(1, -1, "x"), of(1, 0, "\x00"), of(1, 0, "x"), of(1, 1, "x"), of(1, api.MaxNumber+1, ""), of(1, math.MaxInt, ""),
	of(2, math.MinInt, ""), of(2, -1, ""), of(2, -1, "a"), of(2, 0, strings.Repeat("a", 1000)), of(2, 0, over), of(2, 1, ""), of(2, 1, "a"), of(2, math.MaxInt, ""),
	of(3, math.MinInt, ""), of(3, -2, ""), of(3, -1, ""), of(3, 0, "x"), of(3, 1, "\x00"), of(3, 1, "x"), of(3, 2, ""), of(3, 3, ""), of(3, api.MaxNumber, ""), of(3, math.MaxInt, ""),
	of(4, 0, ""), of(4, 0, "a"), of(4, 1, ""), of(5, 0, ""), of(127, 0, ""), of(257, 1, ""), of(258, 0, "a"), of(259, 1, ""), of(1<<32+1, 0, ""), of(api.MaxNumber, 0, ""), of(math.MaxInt, 0, ""),
}

// drawnValue is one that may be, drawn from a source that tells the same ones each time; its texts are of few letters, so that some are alike.
func drawnValue(draw *rand.Rand) api.Value {
	switch draw.Intn(3) {
	case 0:
		n := draw.Intn(api.MaxNumber+1) >> draw.Intn(54)
		return number(n - 2*n*draw.Intn(2))
	case 1:
		b := make([]byte, draw.Intn(api.MaxBytes+1)>>draw.Intn(7))
		for i := range b {
			b[i] = "\x00a\xff"[draw.Intn(3)]
		}
		return text(string(b))
	}
	return truth(draw.Intn(2))
}

// num is a number from 0 on as bytes.
func num(n int) []byte {
	b, e := digits.U(n)
	if e != api.OK {
		panic(e)
	}
	return b
}

// str is a text as bytes.
func str(s string) []byte {
	b, e := digits.Text(s)
	if e != api.OK {
		panic(e)
	}
	return b
}

// told are the bytes of a value that may be, by other means.
func told(v api.Value) []byte {
	switch {
	case v.Kind == 2:
		return slices.Concat(num(2), str(v.B))
	case v.Kind == 3:
		return []byte{3, byte(v.N)}
	}
	b, e := digits.S(v.N)
	if e != api.OK {
		panic(e)
	}
	return slices.Concat(num(1), b)
}

// taken is what a second reader takes off, that looks for errors field by field.
func taken(r *digits.Reader) (api.Value, api.Errno) {
	var v api.Value
	kind := r.U()
	if e := r.Err(); e != api.OK {
		return v, e
	}
	switch kind {
	default:
		return v, api.ErrSyntax
	case 1:
		n := r.S()
		v = number(n)
	case 2:
		v = text(r.Text(64))
	case 3:
		n := r.U()
		if r.Err() == api.OK && n != 0 && n != 1 {
			return api.Value{}, api.ErrSyntax
		}
		v = truth(n)
	}
	if e := r.Err(); e != api.OK {
		return api.Value{}, e
	}
	return v, api.OK
}

// P8.1: which values may be.
func TestCheck(t *testing.T) {
	for _, v := range some {
		if e := value.Check(v); e != api.OK {
			t.Errorf("%v: %v", v, e)
		}
	}
	for _, v := range none {
		if e := value.Check(v); e != api.ErrValue {
			t.Errorf("%v: %v", v, e)
		}
		if b, e := value.Bytes(v); len(b) != 0 || e != api.ErrValue {
			t.Errorf("%v: %x, %v", v, b, e)
		}
	}
	if e := value.Check(api.Value{}); e != api.ErrValue {
		t.Errorf("the zero value: %v", e)
	}
}

// P8.1: the chapter's examples, and the ends of what may be.
func TestBytes(t *testing.T) {
	for i, c := range []struct {
		v    api.Value
		want []byte
	}{
		{number(-1), []byte{1, 1}},
		{text("ab"), []byte{2, 2, 0x61, 0x62}},
		{truth(1), []byte{3, 1}},
		{truth(0), []byte{3, 0}},
		{number(0), []byte{1, 0}},
		{number(1), []byte{1, 2}},
		{number(-64), []byte{1, 0x7F}},
		{number(64), []byte{1, 0x80, 0x80}},
		{number(api.MaxNumber), []byte{1, 0xFE, 0x3F, 0xFF, 0xFF, 0xFF, 0xFF, 0xFF, 0xFE}},
		{number(-api.MaxNumber), []byte{1, 0xFE, 0x3F, 0xFF, 0xFF, 0xFF, 0xFF, 0xFF, 0xFD}},
		{text(""), []byte{2, 0}},
		{text("\xff\x00"), []byte{2, 2, 0xFF, 0}},
		{text(full), append([]byte{2, 64}, full...)},
	} {
		if got, e := value.Bytes(c.v); !bytes.Equal(got, c.want) || e != api.OK {
			t.Errorf("%d: %x, %v", i, got, e)
		}
		r := digits.New(c.want)
		if got := value.Take(r); got != c.v || r.Err() != api.OK || r.Left() != 0 {
			t.Errorf("%d: %v, %v, %d left", i, got, r.Err(), r.Left())
		}
	}
}

// P8.1, P8.5: values stand by their Kinds, then by N, then by B's bytes, also those that may not be.
func TestCompare(t *testing.T) {
	for _, rows := range [][]api.Value{some, none} {
		for i, a := range rows {
			for j, b := range rows {
				want := 0
				if i < j {
					want = -1
				} else if i > j {
					want = 1
				}
				if got := value.Compare(a, b); got != want {
					t.Errorf("%v, %v: %d", a, b, got)
				}
			}
		}
	}
	for i, c := range []struct {
		a, b api.Value
		want int
	}{
		{number(5), text(""), -1},
		{number(api.MaxNumber), truth(0), -1},
		{text("b"), text("a"), 1},
		{text("Z"), text("a"), -1},
		{of(1, 1, "b"), of(1, 2, "a"), -1},
		{of(2, 2, "a"), of(1, 9, "b"), 1},
		{of(0, 0, "z"), number(-5), -1},
		{of(9, math.MinInt, ""), of(9, math.MaxInt, ""), -1},
		{of(math.MaxInt, 0, ""), of(math.MinInt, 0, ""), 1},
		{of(7, 7, over), of(7, 7, over), 0},
		{api.Value{}, api.Value{}, 0},
	} {
		if got := value.Compare(c.a, c.b); got != c.want {
			t.Errorf("%d: %d", i, got)
		}
	}
}

// P8.5: Compare is an order of all values together.
func TestOrder(t *testing.T) {
	all := slices.Concat(some, none)
	draw := rand.New(rand.NewSource(81))
	for range 60 {
		all = append(all, drawnValue(draw))
	}
	for _, a := range all {
		for _, b := range all {
			ab := value.Compare(a, b)
			if ab != -value.Compare(b, a) || ab == 0 != (a == b) || ab < -1 || ab > 1 {
				t.Errorf("%v, %v: %d", a, b, ab)
			}
			for _, c := range all {
				if ab <= 0 && value.Compare(b, c) <= 0 && value.Compare(a, c) > 0 {
					t.Errorf("%v, %v, %v", a, b, c)
				}
			}
		}
	}
}

// P8.1, P8.4: what was written is read as it was, one behind the other, and what stands behind is left.
func TestBack(t *testing.T) {
	draw := rand.New(rand.NewSource(82))
	all := slices.Clone(some)
	for range 3000 {
		all = append(all, drawnValue(draw))
	}
	var b []byte
	for _, v := range all {
		x, e := value.Bytes(v)
		if e != api.OK || !bytes.Equal(x, told(v)) || value.Check(v) != api.OK {
			t.Fatalf("%v: %x, %v", v, x, e)
		}
		b = append(b, x...)
	}
	r := digits.New(append(b, "behind"...))
	for _, v := range all {
		if got := value.Take(r); got != v {
			t.Fatalf("%v, not %v", got, v)
		}
	}
	if r.Err() != api.OK || string(r.Raw(r.Left())) != "behind" {
		t.Errorf("%v, %d left", r.Err(), r.Left())
	}
}

// P8.2: what is wrong is the reader's error, beside the zero value, and nothing is taken off behind it.
func TestTakeErrors(t *testing.T) {
	for i, c := range []struct {
		b    []byte
		want api.Errno
	}{
		{nil, api.ErrTrunc},
		{[]byte{1}, api.ErrTrunc},
		{[]byte{2}, api.ErrTrunc},
		{[]byte{3}, api.ErrTrunc},
		{[]byte{0x80}, api.ErrTrunc},
		{[]byte{1, 0x80}, api.ErrTrunc},
		{[]byte{1, 0xFE, 0x3F, 0xFF, 0xFF, 0xFF, 0xFF, 0xFF}, api.ErrTrunc},
		{[]byte{2, 2, 'a'}, api.ErrTrunc},
		{append([]byte{2, 64}, full[1:]...), api.ErrTrunc},
		{[]byte{3, 0x80}, api.ErrTrunc},
		{[]byte{0x80, 1, 0}, api.ErrSyntax},
		{[]byte{1, 0x80, 1}, api.ErrSyntax},
		{[]byte{3, 0x80, 1}, api.ErrSyntax},
		{[]byte{2, 0x80, 1, 'a'}, api.ErrSyntax},
		{[]byte{0xFF, 0, 0}, api.ErrSyntax},
		{[]byte{1, 0xFF, 0}, api.ErrSyntax},
		{[]byte{1, 0xFE, 0x3F, 0xFF, 0xFF, 0xFF, 0xFF, 0xFF, 0xFF}, api.ErrSyntax},
		{[]byte{1, 0xFE, 0x40, 0, 0, 0, 0, 0, 0}, api.ErrSyntax},
		{[]byte{0}, api.ErrSyntax},
		{[]byte{0, 0}, api.ErrSyntax},
		{[]byte{4}, api.ErrSyntax},
		{[]byte{4, 0}, api.ErrSyntax},
		{[]byte{4, 1, 1, 1}, api.ErrSyntax},
		{[]byte{127, 0}, api.ErrSyntax},
		{append(num(257), 1), api.ErrSyntax},
		{append(num(1<<32+1), 1), api.ErrSyntax},
		{append(num(api.MaxNumber), 1), api.ErrSyntax},
		{[]byte{3, 2}, api.ErrSyntax},
		{[]byte{3, 3}, api.ErrSyntax},
		{append([]byte{3}, num(256)...), api.ErrSyntax},
		{append([]byte{3}, num(1<<32)...), api.ErrSyntax},
		{append([]byte{3}, num(api.MaxNumber)...), api.ErrSyntax},
		{append([]byte{2}, str(over)...), api.ErrLimit},
		{append([]byte{2}, str(strings.Repeat("x", 200))...), api.ErrLimit},
		{[]byte{2, 65}, api.ErrLimit},
		{append([]byte{2}, num(api.MaxNumber)...), api.ErrLimit},
	} {
		for _, behind := range [][]byte{nil, {1, 2, 3, 4, 5, 6, 7, 8, 9}} {
			if c.want == api.ErrTrunc && behind != nil {
				continue
			}
			r := digits.New(slices.Concat(c.b, behind))
			if got := value.Take(r); got != (api.Value{}) || r.Err() != c.want || r.Left() != 0 {
				t.Errorf("%d: %v, %v, %d left", i, got, r.Err(), r.Left())
			}
			if got := value.Take(r); got != (api.Value{}) || r.Err() != c.want {
				t.Errorf("%d: behind that %v, %v", i, got, r.Err())
			}
		}
	}
}

// P8.2: each value's bytes, cut short anywhere, end too early.
func TestTakeCut(t *testing.T) {
	for _, v := range some {
		b := told(v)
		for n := range b {
			r := digits.New(b[:n])
			if got := value.Take(r); got != (api.Value{}) || r.Err() != api.ErrTrunc {
				t.Errorf("%v, %d bytes: %v, %v", v, n, got, r.Err())
			}
		}
	}
}

// P8.2, P8.4: all bytes up to two, and some behind, are read as a second reader reads them; what can be read is written so.
func TestTakeEachByte(t *testing.T) {
	for i := range 256 {
		holdsValue(t, []byte{byte(i)})
		for j := range 256 {
			holdsValue(t, []byte{byte(i), byte(j)})
			holdsValue(t, []byte{byte(i), byte(j), 'a', 0, 0xFF})
		}
	}
}

// holdsValue holds Take to a second reader.
func holdsValue(t *testing.T, b []byte) {
	t.Helper()
	r, q := digits.New(b), digits.New(b)
	got := value.Take(r)
	want, e := taken(q)
	if got != want || r.Err() != e {
		t.Fatalf("%x: %v, %v, not %v, %v", b, got, r.Err(), want, e)
	}
	if e != api.OK {
		return
	}
	back, e := value.Bytes(got)
	if size := len(b) - r.Left(); r.Left() != q.Left() || e != api.OK || !bytes.Equal(back, b[:size]) {
		t.Fatalf("%x: %v, %d left, written as %x, %v", b, got, r.Left(), back, e)
	}
}

// readersWithError are such that have an error already, and which one.
func readersWithError() map[*digits.Reader]api.Errno {
	failed := digits.New([]byte{1, 2, 3, 1})
	failed.Fail(api.ErrBatch)
	return map[*digits.Reader]api.Errno{nil: api.ErrNil, new(digits.Reader): api.ErrNil, failed: api.ErrBatch}
}

// P8.2: a reader that is none, or has an error already, keeps that.
func TestTakeOfNone(t *testing.T) {
	for r, want := range readersWithError() {
		if got := value.Take(r); got != (api.Value{}) || r.Err() != want {
			t.Errorf("%v: %v, %v", want, got, r.Err())
		}
		if got := value.TakeAttrs(r); len(got) != 0 || r.Err() != want {
			t.Errorf("%v: %v, %v", want, got, r.Err())
		}
	}
}

// P8.3: what is answered is new memory, each time.
func TestBytesAreNew(t *testing.T) {
	for _, v := range some {
		first, _ := value.Bytes(v)
		for i := range first[:cap(first)] {
			first[:cap(first)][i] = 0xAA
		}
		if second, _ := value.Bytes(v); !bytes.Equal(second, told(v)) {
			t.Errorf("%v: %x", v, second)
		}
	}
}
