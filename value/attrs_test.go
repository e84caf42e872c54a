package value_test

import (
	"bytes"
	"fmt"
	"math"
	"math/rand"
	"slices"
	"strings"
	"testing"

	"muslin/api"
	"muslin/digits"
	"muslin/policy"
	"muslin/value"
	"muslin/veil"
)

// at is a label.
func at(level int, parts uint32) api.Label {
	return api.Label{Level: level, Parts: parts}
}

// attr is an attribute.
func attr(name string, l api.Label, v api.Value) api.Attr {
	return api.Attr{Name: name, Label: l, Value: v}
}

// longName is a name that is as long as may be.
var longName = "a" + strings.Repeat("z", api.MaxName-1)

// badNames are texts that are no names.
var badNames = []string{"", "A", "1a", ".a", "-a", "a_", "a b", "a\x00", "\xff", "a\xff", "\u00e9", "aB", longName + "z", strings.Repeat("a", 1000)}

// badLabels are some that may not be.
var badLabels = []api.Label{at(-1, 0), at(8, 0), at(8, 1), at(math.MaxInt, 0), at(math.MinInt, 0), at(1<<32, 0)}

// many are so many attributes of rising names.
func many(n int) (l []api.Attr) {
	for i := range n {
		l = append(l, attr(fmt.Sprintf("n%02d", i), at(i%8, uint32(i)), some[i%len(some)]))
	}
	return l
}

// drawnList is a list that may be, of drawn names, labels and values.
func drawnList(draw *rand.Rand) (l []api.Attr) {
	var names []string
	for range draw.Intn(api.MaxAttrs + 1) {
		name := []byte{"abz"[draw.Intn(3)]}
		for range draw.Intn(api.MaxName) >> draw.Intn(5) {
			name = append(name, "az09.-"[draw.Intn(6)])
		}
		names = append(names, string(name))
	}
	slices.Sort(names)
	for _, name := range slices.Compact(names) {
		l = append(l, attr(name, at(draw.Intn(api.MaxLevel+1), draw.Uint32()>>draw.Intn(33)), drawnValue(draw)))
	}
	return l
}

// toldAttr are an attribute's bytes by other means, also of a name and a label that may not be.
func toldAttr(a api.Attr) []byte {
	return slices.Concat(str(a.Name), num(a.Label.Level), num(int(a.Label.Parts)), told(a.Value))
}

// toldList are a list's bytes by other means.
func toldList(l []api.Attr) []byte {
	b := num(len(l))
	for _, a := range l {
		b = append(b, toldAttr(a)...)
	}
	return b
}

// takenList is what a second reader takes off: all that is there first, then what is wrong with it.
func takenList(r *digits.Reader) ([]api.Attr, api.Errno) {
	n := r.U()
	if e := r.Err(); e != api.OK {
		return nil, e
	}
	if n > 8 {
		return nil, api.ErrSyntax
	}
	var l []api.Attr
	for range n {
		a := api.Attr{Name: r.Text(24), Label: at(r.U(), 0)}
		parts := r.U()
		if e := r.Err(); e != api.OK {
			return nil, e
		}
		if a.Label.Level > 7 || parts > math.MaxUint32 {
			return nil, api.ErrSyntax
		}
		a.Label.Parts = uint32(parts)
		v, e := taken(r)
		if e != api.OK {
			return nil, e
		}
		a.Value = v
		l = append(l, a)
	}
	for i, a := range l {
		if !policy.IsName(a.Name) || slices.ContainsFunc(l[:i], func(b api.Attr) bool { return b.Name >= a.Name }) {
			return nil, api.ErrSyntax
		}
	}
	return l, api.OK
}

// P8.1: which attributes may be.
func TestCheckAttr(t *testing.T) {
	for _, name := range []string{"a", "z", "a1", "a.b-c", longName} {
		for _, l := range []api.Label{at(0, 0), at(7, 0), at(7, api.MaxParts), at(0, 1<<31)} {
			for _, v := range some {
				if e := value.CheckAttr(attr(name, l, v)); e != api.OK {
					t.Errorf("%q, %v, %v: %v", name, l, v, e)
				}
			}
		}
	}
	var bad []api.Attr
	for _, name := range badNames {
		bad = append(bad, attr(name, at(1, 1), number(1)))
	}
	for _, l := range badLabels {
		bad = append(bad, attr("a", l, number(1)))
	}
	for _, v := range none {
		bad = append(bad, attr("a", at(1, 1), v))
	}
	for _, a := range append(bad, api.Attr{}) {
		if e := value.CheckAttr(a); e != api.ErrValue {
			t.Errorf("%q, %v, %v: %v", a.Name, a.Label, a.Value, e)
		}
		// It may not be at any place of a list.
		for _, l := range [][]api.Attr{{a}, {attr("A", at(0, 0), number(0)), a}, {a, attr("zz", at(0, 0), number(0))}} {
			if b, e := value.Attrs(l); len(b) != 0 || e != api.ErrValue {
				t.Errorf("%v: %x, %v", l, b, e)
			}
		}
	}
}

// P8.1: one that may not be at each place of a full list.
func TestAttrsEachPlace(t *testing.T) {
	for i := range api.MaxAttrs {
		for _, spoil := range []func(*api.Attr){
			func(a *api.Attr) { a.Name += "_" },
			func(a *api.Attr) { a.Label.Level = 8 },
			func(a *api.Attr) { a.Value = of(3, 2, "") },
		} {
			l := many(api.MaxAttrs)
			spoil(&l[i])
			if b, e := value.Attrs(l); len(b) != 0 || e != api.ErrValue {
				t.Errorf("%d: %x, %v", i, b, e)
			}
		}
	}
}

// P8.1: the chapter's example, lists of none and of as many as may be.
func TestAttrs(t *testing.T) {
	for i, c := range []struct {
		l    []api.Attr
		want []byte
	}{
		{[]api.Attr{attr("a", at(1, 0), truth(0))}, []byte{1, 1, 0x61, 1, 0, 3, 0}},
		{nil, []byte{0}},
		{[]api.Attr{}, []byte{0}},
		{[]api.Attr{attr("a", at(0, 0), text("ab")), attr("a.b", at(7, 128), number(-1))}, []byte{2, 1, 'a', 0, 0, 2, 2, 'a', 'b', 3, 'a', '.', 'b', 7, 0x80, 0x80, 1, 1}},
		{many(1), toldList(many(1))},
		{many(7), toldList(many(7))},
		{many(8), toldList(many(8))},
	} {
		got, e := value.Attrs(c.l)
		if !bytes.Equal(got, c.want) || e != api.OK {
			t.Errorf("%d: %x, %v", i, got, e)
		}
		r := digits.New(append(got, 9, 9))
		if back := value.TakeAttrs(r); !slices.Equal(back, c.l) || r.Err() != api.OK || r.Left() != 2 {
			t.Errorf("%d: %v, %v, %d left", i, back, r.Err(), r.Left())
		}
	}
}

// P8.1: too many, and names that don't rise.
func TestAttrsErrors(t *testing.T) {
	named := func(names ...string) (l []api.Attr) {
		for _, name := range names {
			l = append(l, attr(name, at(0, 0), number(0)))
		}
		return l
	}
	for _, l := range [][]api.Attr{
		many(9), many(10), many(1000),
		named("b", "a"), named("a", "a"), named("a", "b", "b"), named("a", "c", "b"), named("b", "a", "c"), named("ab", "a"), named("a.b", "a-b"), named("aa", "a9"),
		named("a", "b", "c", "d", "e", "f", "h", "g"), named("a", "b", "c", "d", "e", "f", "g", "g"),
	} {
		if b, e := value.Attrs(l); len(b) != 0 || e != api.ErrValue {
			t.Errorf("%v: %x, %v", l, b, e)
		}
	}
	for _, l := range [][]api.Attr{named("a", "aa", "ab", "b"), named("a", "a-", "a-b", "a.", "a.b", "a0", "a9", "aa")} {
		if b, e := value.Attrs(l); !bytes.Equal(b, toldList(l)) || e != api.OK {
			t.Errorf("%v: %x, %v", l, b, e)
		}
	}
}

// P8.4: what was written is read as it was, list behind list.
func TestAttrsBack(t *testing.T) {
	draw := rand.New(rand.NewSource(83))
	var b []byte
	var all [][]api.Attr
	for range 2000 {
		l := drawnList(draw)
		x, e := value.Attrs(l)
		if e != api.OK || !bytes.Equal(x, toldList(l)) {
			t.Fatalf("%v: %x, %v", l, x, e)
		}
		all = append(all, l)
		b = append(b, x...)
	}
	r := digits.New(append(b, "behind"...))
	for _, l := range all {
		if got := value.TakeAttrs(r); !slices.Equal(got, l) {
			t.Fatalf("%v, not %v", got, l)
		}
	}
	if r.Err() != api.OK || string(r.Raw(r.Left())) != "behind" {
		t.Errorf("%v, %d left", r.Err(), r.Left())
	}
}

// P8.2: what is wrong is the reader's error, beside nothing.
func TestTakeAttrsErrors(t *testing.T) {
	a := attr("a", at(1, 0), truth(0))
	good := toldAttr(a)
	two := func(first, second []byte) []byte { return slices.Concat([]byte{2}, first, second) }
	named := func(name string) []byte { return toldAttr(attr(name, at(1, 0), truth(0))) }
	for i, c := range []struct {
		b    []byte
		want api.Errno
	}{
		{nil, api.ErrTrunc},
		{[]byte{1}, api.ErrTrunc},
		{[]byte{8}, api.ErrTrunc},
		{[]byte{0x80}, api.ErrTrunc},
		{two(good, nil), api.ErrTrunc},
		{[]byte{0x80, 1, 1, 'a', 0, 0, 3, 0}, api.ErrSyntax},
		{[]byte{0xFF}, api.ErrSyntax},
		{[]byte{9}, api.ErrSyntax},
		{toldList(many(9)), api.ErrSyntax},
		{num(api.MaxNumber), api.ErrSyntax},
		{num(1 << 32), api.ErrSyntax},
		{num(257), api.ErrSyntax},
		{[]byte{1, 25}, api.ErrLimit},
		{append([]byte{1}, named(longName+"z")...), api.ErrLimit},
		{two(good, named(strings.Repeat("b", 100))), api.ErrLimit},
		{slices.Concat([]byte{1, 1, 'a', 0, 0, 2}, str(over)), api.ErrLimit},
		{append([]byte{1}, named("")...), api.ErrSyntax},
		{append([]byte{1}, named("A")...), api.ErrSyntax},
		{append([]byte{1}, named("a\xff")...), api.ErrSyntax},
		{two(good, good), api.ErrSyntax},
		{two(named("b"), good), api.ErrSyntax},
		{two(good, named("B")), api.ErrSyntax},
		{two(named("A"), good), api.ErrSyntax},
		{[]byte{1, 1, 'a', 8, 0, 3, 0}, api.ErrSyntax},
		{slices.Concat([]byte{1, 1, 'a', 7}, num(api.MaxParts+1), []byte{3, 0}), api.ErrSyntax},
		{[]byte{1, 1, 'a', 0, 0, 3, 2}, api.ErrSyntax},
		{[]byte{1, 1, 'a', 0, 0, 4, 0}, api.ErrSyntax},
		{[]byte{1, 1, 'a', 0, 0, 0, 0}, api.ErrSyntax},
		{[]byte{1, 0x80, 1, 'a', 0, 0, 3, 0}, api.ErrSyntax},
		// Bytes that are wrong are told ahead of names that are: these are looked at when all is read.
		{two(named("A"), good[:4]), api.ErrTrunc},
		{two(named("A"), named(longName+"z")), api.ErrLimit},
		{two(named("b"), good[:len(good)-1]), api.ErrTrunc},
		{slices.Concat([]byte{1, 1, 'A', 0, 0, 2}, str(over)), api.ErrLimit},
		// A label, or a value, that may not be is told when it is read.
		{two([]byte{1, 'a', 8, 0, 3, 0}, nil), api.ErrSyntax},
		{[]byte{1, 1, 'a', 0, 0, 4}, api.ErrSyntax},
	} {
		for _, behind := range [][]byte{nil, bytes.Repeat([]byte{0}, 300)} {
			if c.want == api.ErrTrunc && behind != nil {
				continue
			}
			r := digits.New(slices.Concat(c.b, behind))
			if got := value.TakeAttrs(r); len(got) != 0 || r.Err() != c.want || r.Left() != 0 {
				t.Errorf("%d: %v, %v, %d left", i, got, r.Err(), r.Left())
			}
		}
	}
}

// P8.2: a list's bytes, cut short anywhere, end too early.
func TestTakeAttrsCut(t *testing.T) {
	b := toldList(many(8))
	for n := range b {
		r := digits.New(b[:n])
		if got := value.TakeAttrs(r); len(got) != 0 || r.Err() != api.ErrTrunc {
			t.Errorf("%d bytes: %v, %v", n, got, r.Err())
		}
	}
}

// P8.2, P8.4: with each byte changed to each other one a list is read as a second reader reads it.
func TestTakeAttrsEachByte(t *testing.T) {
	for _, l := range [][]api.Attr{{}, many(1), {attr("a", at(1, 200), text("ab")), attr("b", at(7, 0), number(-1)), attr("b1", at(0, 1<<31), truth(1))}} {
		b := toldList(l)
		for i := range b {
			for x := range 256 {
				c := append(bytes.Clone(b), 0, 1, 2)
				c[i] = byte(x)
				holdsList(t, c)
				holdsList(t, c[:len(b)])
			}
		}
	}
}

// P8.2, P8.4: drawn bytes, and lists of which some bytes were changed, are read as a second reader reads them.
func TestTakeAttrsDrawn(t *testing.T) {
	draw := rand.New(rand.NewSource(84))
	for range 30000 {
		b := toldList(drawnList(draw))
		for range draw.Intn(4) {
			b[draw.Intn(len(b))] = []byte{0, 1, 2, 3, 4, 7, 8, 'a', 'A', 24, 25, 64, 65, 0x80, 0xFF}[draw.Intn(15)]
		}
		holdsList(t, b)
	}
}

// holdsList holds TakeAttrs to a second reader.
func holdsList(t *testing.T, b []byte) {
	t.Helper()
	kept := bytes.Clone(b)
	r, q := digits.New(b), digits.New(b)
	got := value.TakeAttrs(r)
	want, e := takenList(q)
	if !slices.Equal(got, want) || r.Err() != e || !bytes.Equal(b, kept) {
		t.Fatalf("%x: %v, %v, not %v, %v", b, got, r.Err(), want, e)
	}
	if e != api.OK {
		return
	}
	back, e := value.Attrs(got)
	if size := len(b) - r.Left(); r.Left() != q.Left() || e != api.OK || !bytes.Equal(back, b[:size]) {
		t.Fatalf("%x: %v, %d left, written as %x, %v", b, got, r.Left(), back, e)
	}
}

// P8.6 (W2): a list's bytes are as many as each of its parts' alone, and how many there are.
func TestAttrsSize(t *testing.T) {
	draw := rand.New(rand.NewSource(85))
	for range 2000 {
		l := drawnList(draw)
		b, e := value.Attrs(l)
		size := 1
		for _, a := range l {
			label, _ := veil.Bytes(a.Label)
			v, _ := value.Bytes(a.Value)
			size += len(str(a.Name)) + len(label) + len(v)
		}
		if len(b) != size || e != api.OK {
			t.Errorf("%v: %d bytes, not %d, %v", l, len(b), size, e)
		}
	}
}

// P8.6 (W2): another value whose bytes are as many leaves how many the list has.
func TestAttrsSameSize(t *testing.T) {
	for _, c := range [][2]api.Value{{number(-64), number(63)}, {number(64), number(-8192)}, {number(0), truth(1)}, {text(""), truth(0)}, {text("abc"), text("\x00\xff\x01")}, {text(full), text(strings.ToUpper(full))}} {
		l := many(8)
		for i := range l {
			l[i].Value = c[0]
			first, _ := value.Attrs(l)
			l[i].Value = c[1]
			second, _ := value.Attrs(l)
			if len(first) == 0 || len(first) != len(second) {
				t.Errorf("%v: %d and %d bytes", c, len(first), len(second))
			}
		}
	}
}

// P8.3: a list that is handed in stays as it was, what stands behind it too.
func TestAttrsOnlyReads(t *testing.T) {
	for _, n := range []int{0, 3, 8, 9} {
		room := many(12)
		room[0], room[1] = room[1], room[0]
		for _, from := range []int{0, 2} {
			kept := slices.Clone(room)
			value.Attrs(room[from:min(from+n, 10)])
			if !slices.Equal(room, kept) {
				t.Errorf("%d attributes: changed", n)
			}
		}
	}
}

// P8.3: what is answered is new memory, each time.
func TestAttrsAreNew(t *testing.T) {
	l := many(8)
	want := toldList(l)
	first, _ := value.Attrs(l)
	for i := range first[:cap(first)] {
		first[:cap(first)][i] = 0xAA
	}
	if second, _ := value.Attrs(l); !bytes.Equal(second, want) || !slices.Equal(l, many(8)) {
		t.Errorf("%x", second)
	}

	r := digits.New(slices.Concat(want, want))
	one := value.TakeAttrs(r)
	for i := range one[:cap(one)] {
		one[:cap(one)][i] = api.Attr{Name: "spoilt"}
	}
	if two := value.TakeAttrs(r); !slices.Equal(two, l) {
		t.Errorf("%v", two)
	}
}

// FuzzTake looks for bytes of values, and of lists, that are read wrongly (P8.2, P8.4).
func FuzzTake(f *testing.F) {
	for _, v := range some {
		f.Add(told(v))
	}
	for n := range 10 {
		f.Add(toldList(many(n)))
	}
	f.Fuzz(func(t *testing.T, b []byte) {
		holdsValue(t, b)
		holdsList(t, b)
	})
}
