package veil_test

import (
	"bytes"
	"fmt"
	"math"
	"math/rand"
	"slices"
	"strconv"
	"strings"
	"testing"

	"muslin/api"
	"muslin/digits"
	"muslin/veil"
)

// at is a label.
func at(level int, parts uint32) api.Label {
	return api.Label{Level: level, Parts: parts}
}

// none are labels that may not be.
var none = []api.Label{at(-1, 0), at(8, 0), at(8, 3), at(-8, 1), at(9, math.MaxUint32), at(math.MaxInt, 1), at(math.MinInt, 1), at(256, 0), at(1<<32, 0)}

// few are all labels with some levels, and with compartments at both ends of the bits.
func few() (l []api.Label) {
	for _, level := range []int{0, 1, 3, 6, 7} {
		for i := range uint32(16) {
			l = append(l, at(level, i&3|i>>2<<30))
		}
	}
	return l
}

// drawn is a label drawn from a source that tells the same ones each time.
func drawn(draw *rand.Rand) api.Label {
	return at(draw.Intn(api.MaxLevel+1), draw.Uint32()>>draw.Intn(33))
}

// flows tells the same as Flows of labels that may be, bit by bit.
func flows(a, b api.Label) bool {
	for i := range 32 {
		if a.Parts>>i&1 == 1 && b.Parts>>i&1 == 0 {
			return false
		}
	}
	return !(a.Level > b.Level)
}

// bytesOf are a label's bytes, as digits writes them.
func bytesOf(t *testing.T, level, parts int) []byte {
	t.Helper()
	x, e := digits.U(level)
	y, f := digits.U(parts)
	if e != api.OK || f != api.OK {
		t.Fatalf("%d, %d: %v, %v", level, parts, e, f)
	}
	return slices.Concat(x, y)
}

// P6.1: a label may be up to the greatest level, from 0 on.
func TestCheck(t *testing.T) {
	for level := range api.MaxLevel + 1 {
		for _, parts := range []uint32{0, 1, 1 << 31, api.MaxParts} {
			if e := veil.Check(at(level, parts)); e != api.OK {
				t.Errorf("%d, %x: %v", level, parts, e)
			}
		}
	}
	for _, l := range none {
		if e := veil.Check(l); e != api.ErrRange {
			t.Errorf("%v: %v", l, e)
		}
	}
}

// P6.1: the chapter's examples.
func TestFlowsExamples(t *testing.T) {
	for i, c := range []struct {
		a, b api.Label
		want bool
	}{
		{at(1, 1), at(2, 3), true},
		{at(1, 4), at(2, 3), false},
		{at(3, 0), at(2, 3), false},
		{at(2, 3), at(2, 3), true},
		{at(2, 3), at(1, 3), false},
		{at(2, 3), at(7, 1), false},
		{at(7, api.MaxParts), at(7, api.MaxParts), true},
		{at(7, api.MaxParts), at(7, api.MaxParts-1), false},
		{at(0, 1<<31), at(7, 1<<31-1), false},
	} {
		if got := veil.Flows(c.a, c.b); got != c.want {
			t.Errorf("%d: %v", i, got)
		}
	}
}

// P6.1: Flows looks at levels and at each bit.
func TestFlows(t *testing.T) {
	for _, a := range few() {
		for _, b := range few() {
			if got, want := veil.Flows(a, b), flows(a, b); got != want {
				t.Errorf("%v, %v: %v", a, b, got)
			}
		}
	}
	for i := range 32 {
		bit := uint32(1) << i
		if !veil.Flows(at(0, bit), at(0, bit)) || veil.Flows(at(0, bit), at(7, ^bit)) || !veil.Flows(at(0, 0), at(0, bit)) {
			t.Errorf("bit %d", i)
		}
	}
}

// P6.1: a label that may not be flows nowhere, nothing flows to it, and with it there is no join and no meet.
func TestNone(t *testing.T) {
	for _, l := range none {
		for _, other := range append(few(), l) {
			if veil.Flows(l, other) || veil.Flows(other, l) {
				t.Errorf("%v, %v: it flows", l, other)
			}
			if veil.Meet(l, other) != (api.Label{}) || veil.Meet(other, l) != (api.Label{}) {
				t.Errorf("%v, %v: a meet", l, other)
			}
			for _, all := range [][]api.Label{{l, other}, {other, l}, {other, l, other}, {l}} {
				if got := veil.Join(all...); got != (api.Label{}) {
					t.Errorf("%v: a join %v", all, got)
				}
			}
		}
	}
}

// P6.1: the chapter's examples, and joins of however many.
func TestJoin(t *testing.T) {
	for i, c := range []struct {
		all  []api.Label
		want api.Label
	}{
		{nil, at(0, 0)},
		{[]api.Label{}, at(0, 0)},
		{[]api.Label{at(0, 0)}, at(0, 0)},
		{[]api.Label{at(5, 9)}, at(5, 9)},
		{[]api.Label{at(1, 4), at(2, 3)}, at(2, 7)},
		{[]api.Label{at(2, 3), at(1, 4)}, at(2, 7)},
		{[]api.Label{at(7, 0), at(0, api.MaxParts)}, at(7, api.MaxParts)},
		{[]api.Label{at(1, 1), at(6, 2), at(3, 1<<31), at(0, 8)}, at(6, 1<<31|11)},
	} {
		if got := veil.Join(c.all...); got != c.want {
			t.Errorf("%d: %v, not %v", i, got, c.want)
		}
	}
	if got := veil.Join(); got != (api.Label{}) {
		t.Errorf("of none: %v", got)
	}
}

// P6.1: joins of many are what comes of one behind the other, whatever their order, and the list stays as it was.
func TestJoinMany(t *testing.T) {
	draw := rand.New(rand.NewSource(61))
	for range 300 {
		var all []api.Label
		for range draw.Intn(40) {
			all = append(all, drawn(draw))
		}
		kept := slices.Clone(all)
		var want api.Label
		for _, l := range all {
			want = veil.Join(want, l)
		}
		if got := veil.Join(all...); got != want || !slices.Equal(all, kept) {
			t.Errorf("%v: %v, not %v", kept, got, want)
		}
		draw.Shuffle(len(all), func(i, j int) { all[i], all[j] = all[j], all[i] })
		if got := veil.Join(all...); got != want {
			t.Errorf("%v: %v, not %v", all, got, want)
		}
	}
}

// P6.1: the chapter's examples.
func TestMeet(t *testing.T) {
	for i, c := range []struct{ a, b, want api.Label }{
		{at(1, 4), at(2, 6), at(1, 4)},
		{at(2, 6), at(1, 4), at(1, 4)},
		{at(1, 5), at(2, 6), at(1, 4)},
		{at(3, 1), at(3, 2), at(3, 0)},
		{at(7, api.MaxParts), at(7, api.MaxParts), at(7, api.MaxParts)},
		{at(7, api.MaxParts), at(0, 0), at(0, 0)},
		{at(4, 1<<31|1), at(5, 1<<31|2), at(4, 1<<31)},
	} {
		if got := veil.Meet(c.a, c.b); got != c.want {
			t.Errorf("%d: %v, not %v", i, got, c.want)
		}
	}
}

// P6.4: Flows is an order, with the zero label below all.
func TestOrder(t *testing.T) {
	all := few()
	for _, a := range all {
		if !veil.Flows(a, a) || !veil.Flows(api.Label{}, a) {
			t.Errorf("%v: itself, or the zero label", a)
		}
		for _, b := range all {
			if !veil.Flows(a, b) {
				continue
			}
			if veil.Flows(b, a) && a != b {
				t.Errorf("%v, %v flow to each other", a, b)
			}
			for _, c := range all {
				if veil.Flows(b, c) && !veil.Flows(a, c) {
					t.Errorf("%v flows to %v, that to %v", a, b, c)
				}
			}
		}
	}
}

// P6.5: joins are least among those above both, meets greatest among those below both.
func TestBounds(t *testing.T) {
	all := few()
	for _, a := range all {
		for _, b := range all {
			join, meet := veil.Join(a, b), veil.Meet(a, b)
			if !veil.Flows(a, join) || !veil.Flows(b, join) || !veil.Flows(meet, a) || !veil.Flows(meet, b) {
				t.Errorf("%v, %v: %v, %v", a, b, join, meet)
			}
			for _, c := range all {
				if veil.Flows(a, c) && veil.Flows(b, c) && !veil.Flows(join, c) {
					t.Errorf("%v, %v: %v doesn't flow to %v", a, b, join, c)
				}
				if veil.Flows(c, a) && veil.Flows(c, b) && !veil.Flows(c, meet) {
					t.Errorf("%v, %v: %v doesn't flow to %v", a, b, c, meet)
				}
			}
		}
	}
}

// P6.2: bytes are the level's number, and that of the compartments.
func TestBytes(t *testing.T) {
	for i, c := range []struct {
		l    api.Label
		want []byte
	}{
		{at(0, 0), []byte{0, 0}},
		{at(7, 127), []byte{7, 0x7F}},
		{at(3, 128), []byte{3, 0x80, 0x80}},
		{at(2, 1<<14), []byte{2, 0xC0, 0x40, 0}},
		{at(1, api.MaxParts), []byte{1, 0xF0, 0xFF, 0xFF, 0xFF, 0xFF}},
	} {
		if got, e := veil.Bytes(c.l); !bytes.Equal(got, c.want) || e != api.OK {
			t.Errorf("%d: %x, %v", i, got, e)
		}
	}
	for _, l := range none {
		if got, e := veil.Bytes(l); got != nil || e != api.ErrRange {
			t.Errorf("%v: %x, %v", l, got, e)
		}
	}
}

// P6.2: what is answered is new memory, each time.
func TestBytesAreNew(t *testing.T) {
	l := at(4, 1<<20)
	first, _ := veil.Bytes(l)
	kept := bytes.Clone(first)
	for i := range first[:cap(first)] {
		first[:cap(first)][i] = 0xAA
	}
	if second, _ := veil.Bytes(l); !bytes.Equal(second, kept) {
		t.Errorf("%x, not %x", second, kept)
	}
}

// P6.6: what was written is read as it was, one behind the other, and what stands behind is left.
func TestBytesBack(t *testing.T) {
	draw := rand.New(rand.NewSource(62))
	var b []byte
	all := append(few(), at(7, api.MaxParts), at(0, api.MaxParts))
	for range 1000 {
		all = append(all, drawn(draw))
	}
	for _, l := range all {
		x, e := veil.Bytes(l)
		if e != api.OK {
			t.Fatalf("%v: %v", l, e)
		}
		b = append(b, x...)
	}
	r := digits.New(append(b, "behind"...))
	for _, l := range all {
		if got := veil.Take(r); got != l {
			t.Fatalf("%v, not %v", got, l)
		}
	}
	if r.Err() != api.OK || string(r.Raw(r.Left())) != "behind" {
		t.Errorf("%v, %d left", r.Err(), r.Left())
	}
}

// P6.2: what is wrong is the reader's error, beside the zero label, and nothing is taken off behind it.
func TestTakeErrors(t *testing.T) {
	whole := bytesOf(t, 7, api.MaxParts)
	for i, c := range []struct {
		b    []byte
		want api.Errno
	}{
		{nil, api.ErrTrunc},
		{[]byte{3}, api.ErrTrunc},
		{whole[:len(whole)-1], api.ErrTrunc},
		{[]byte{3, 0x80}, api.ErrTrunc},
		{[]byte{0x80}, api.ErrTrunc},
		{[]byte{0x80, 3, 1}, api.ErrSyntax},
		{[]byte{3, 0x80, 1}, api.ErrSyntax},
		{[]byte{0xFF, 0, 0}, api.ErrSyntax},
		{[]byte{3, 0xFF, 0}, api.ErrSyntax},
		{bytesOf(t, 8, 0), api.ErrSyntax},
		{bytesOf(t, 8, 5), api.ErrSyntax},
		{bytesOf(t, 127, 0), api.ErrSyntax},
		{bytesOf(t, 256, 0), api.ErrSyntax},
		{bytesOf(t, 1<<32, 0), api.ErrSyntax},
		{bytesOf(t, api.MaxNumber, 0), api.ErrSyntax},
		{bytesOf(t, 0, api.MaxParts+1), api.ErrSyntax},
		{bytesOf(t, 7, api.MaxParts+2), api.ErrSyntax},
		{bytesOf(t, 7, api.MaxNumber), api.ErrSyntax},
		{bytesOf(t, 8, api.MaxParts+1), api.ErrSyntax},
		// A level that is too great is told only of a label whose bytes are there.
		{[]byte{8}, api.ErrTrunc},
		{[]byte{8, 0xC0, 0}, api.ErrTrunc},
	} {
		for _, behind := range [][]byte{nil, {1, 2, 3, 4, 5, 6, 7, 8, 9}} {
			if c.want == api.ErrTrunc && behind != nil {
				continue
			}
			r := digits.New(slices.Concat(c.b, behind))
			if got := veil.Take(r); got != (api.Label{}) || r.Err() != c.want || r.Left() != 0 {
				t.Errorf("%d: %v, %v, %d left", i, got, r.Err(), r.Left())
			}
			if got := veil.Take(r); got != (api.Label{}) || r.Err() != c.want {
				t.Errorf("%d: behind that %v, %v", i, got, r.Err())
			}
		}
	}
}

// P6.2: a reader that is none, or has an error already, keeps that.
func TestTakeOfNone(t *testing.T) {
	failed := digits.New([]byte{9, 9})
	failed.Fail(api.ErrBatch)
	for i, c := range []struct {
		r    *digits.Reader
		want api.Errno
	}{{nil, api.ErrNil}, {new(digits.Reader), api.ErrNil}, {failed, api.ErrBatch}} {
		if got := veil.Take(c.r); got != (api.Label{}) || c.r.Err() != c.want {
			t.Errorf("%d: %v, %v", i, got, c.r.Err())
		}
	}
}

// P6.3: the chapter's examples, and the ends of what may be.
func TestText(t *testing.T) {
	for i, c := range []struct {
		l    api.Label
		want string
	}{
		{at(0, 0), "0"},
		{at(3, 0), "3"},
		{at(7, 0), "7"},
		{at(2, 7), "2:00000007"},
		{at(0, 1), "0:00000001"},
		{at(1, 0x89abcdef), "1:89abcdef"},
		{at(5, 0x01234567), "5:01234567"},
		{at(7, 1<<31), "7:80000000"},
		{at(7, api.MaxParts), "7:ffffffff"},
	} {
		if got := veil.Text(c.l); got != c.want {
			t.Errorf("%d: %s, not %s", i, got, c.want)
		}
		if got, e := veil.Read(c.want); got != c.l || e != api.OK {
			t.Errorf("%d: %v, %v", i, got, e)
		}
	}
	for _, l := range none {
		if got := veil.Text(l); got != "" {
			t.Errorf("%v: %s", l, got)
		}
	}
}

// P6.3: what is no label's text.
func TestReadErrors(t *testing.T) {
	for _, s := range []string{
		"", " ", "8", "9", "a", "-", "-1", "+3", " 3", "3 ", "33", "03", "30", "3\n", "3\x00", "\x003",
		":", "3:", ":00000001", "3:0", "3:1", "3:0000001", "3:000000001", "3:00000001 ", "3: 0000001",
		"3:00000000", "0:00000000", "3:0000000G", "3:0000000g", "3:0000000A", "3:FFFFFFFF", "3:G0000000",
		"8:00000001", "33:00000001", "3;00000001", "3.00000001", "300000001", "3:0x000001", "3:+0000001", "3:-0000001",
		"3:00000001:", "3::00000001", "3:0000:001", "3::0000001", "3:00000001:00000001", "3:000_0001",
		"\xff", "3:0000000\xff", "\xff:00000001", "3\xff00000001", "3:\xff\xff\xff\xff\xff\xff\xff\xff", "\xef\xbf\xbd", "3:00000\xef\xbf\xbd",
		"\u0663", "\uff13", "3:000000\u00e9", "3:0000000\u0663", "3:000000\u0663", "\uff13:00000001", "3\uff1a00000001", "3:00000\uff11",
		strings.Repeat("3", 1000), "3:" + strings.Repeat("0", 1000) + "1",
	} {
		if got, e := veil.Read(s); got != (api.Label{}) || e != api.ErrSyntax {
			t.Errorf("%q: %v, %v", s, got, e)
		}
	}
}

// told is a label's text by other means.
func told(l api.Label) string {
	if l.Parts == 0 {
		return strconv.Itoa(l.Level)
	}
	return fmt.Sprintf("%d:%08x", l.Level, l.Parts)
}

// P6.3, P6.6: texts of drawn labels, and back.
func TestTextBack(t *testing.T) {
	draw := rand.New(rand.NewSource(63))
	for range 20000 {
		l := drawn(draw)
		text := veil.Text(l)
		got, e := veil.Read(text)
		if text != told(l) || got != l || e != api.OK {
			t.Errorf("%v: %s, back %v, %v", l, text, got, e)
		}
	}
}

// P6.3: at each place of a text each byte is read, if it is one that may be there, and else refused.
func TestReadEachByte(t *testing.T) {
	for _, text := range []string{"5", "4:0a1b2c3d", "0:00000001"} {
		for i := range text {
			for x := range 256 {
				s := text[:i] + string([]byte{byte(x)}) + text[i+1:]
				holds(t, s)
			}
		}
	}
}

// holds holds Read to what its label's text is by other means.
func holds(t *testing.T, s string) {
	t.Helper()
	head, tail, _ := strings.Cut(s, ":")
	level, errLevel := strconv.ParseUint(head, 8, 3)
	parts, errParts := strconv.ParseUint(tail, 16, 32)
	want := at(int(level), uint32(parts))
	ok := errLevel == nil && (errParts == nil || tail == "") && told(want) == s
	got, e := veil.Read(s)
	if ok && (got != want || e != api.OK) || !ok && (got != (api.Label{}) || e != api.ErrSyntax) {
		t.Errorf("%q: %v, %v", s, got, e)
	}
}

// FuzzRead: whatever text comes, Read tells the one label that has it, or an error.
func FuzzRead(f *testing.F) {
	for _, s := range []string{"", "3", "8", "2:00000007", "3:00000000", "3:0000000G", "7:ffffffff", "\xff"} {
		f.Add(s)
	}
	f.Fuzz(holds)
}

// FuzzTake: whatever bytes come, Take tells a label of which they are the bytes, or an error.
func FuzzTake(f *testing.F) {
	for _, b := range [][]byte{{}, {0, 0}, {8, 0}, {7, 0xF0, 0xFF, 0xFF, 0xFF, 0xFF}, {7, 0xF1, 0, 0, 0, 0}, {1, 0x80, 0x80, 5}} {
		f.Add(b)
	}
	f.Fuzz(func(t *testing.T, b []byte) {
		r := digits.New(b)
		l := veil.Take(r)
		if r.Err() != api.OK {
			if l != (api.Label{}) {
				t.Errorf("%x: %v beside %v", b, l, r.Err())
			}
			return
		}
		again, e := veil.Bytes(l)
		if e != api.OK || !bytes.Equal(again, b[:len(b)-r.Left()]) {
			t.Errorf("%x: %v, again %x, %v", b, l, again, e)
		}
	})
}
