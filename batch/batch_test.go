package batch_test

import (
	"bytes"
	"math"
	"slices"
	"strings"
	"testing"

	"muslin/api"
	"muslin/batch"
)

// P9.1, P9.2: the chapter's example, and bytes that are known of a batch with everything in it.
func TestExample(t *testing.T) {
	for i, c := range []struct {
		b    api.Batch
		want []byte
	}{
		{of(1, 2, api.Span{Trace: 3, ID: 4, Start: 5, Length: 6, Service: "a", Op: "b"}), []byte{1, 2, 1, 3, 4, 0, 5, 6, 1, 0x61, 1, 0x62, 0, 0}},
		{of(16, api.MaxNumber, api.Span{Trace: api.MaxNumber, ID: 128, Parent: 127, Start: 0, Length: 0, Service: "x.y", Op: "z-1", Subject: "\x00\xff", Attrs: []api.Attr{
			{Name: "k", Label: api.Label{Level: 2, Parts: 1}, Value: api.Value{Kind: 2, B: "v"}},
			{Name: "l", Value: api.Value{Kind: 3, N: 1}},
		}}, api.Span{Trace: 1, ID: 1, Parent: 1, Service: "a", Op: "a"}), []byte{
			16, 0xFE, 0x1F, 0xFF, 0xFF, 0xFF, 0xFF, 0xFF, 0xFF, 2,
			0xFE, 0x1F, 0xFF, 0xFF, 0xFF, 0xFF, 0xFF, 0xFF, 0x80, 0x80, 127, 0, 0,
			3, 'x', '.', 'y', 3, 'z', '-', '1', 2, 0, 0xFF,
			2, 1, 'k', 2, 1, 2, 1, 'v', 1, 'l', 0, 0, 3, 1,
			1, 1, 1, 0, 0, 1, 'a', 1, 'a', 0, 0,
		}},
	} {
		b, e := batch.Bytes(c.b)
		if !bytes.Equal(b, c.want) || e != api.OK {
			t.Errorf("%d: %x, %v", i, b, e)
		}
		got, e := batch.Parse(c.want)
		if !alike(got, c.b) || e != api.OK {
			t.Errorf("%d: %v, %v", i, got, e)
		}
	}
}

// P9.1: which spans may be, at the ends of what may be.
func TestCheckSpan(t *testing.T) {
	for i, change := range goodSpans {
		s := plain()
		change(&s)
		if e := batch.CheckSpan(s); e != api.OK {
			t.Errorf("%d: %v: %v", i, s, e)
		}
		b := of(1, 1, s)
		if e := batch.Check(b); e != api.OK {
			t.Errorf("%d: a batch of it: %v", i, e)
		}
		holds(t, b)
	}
	for i, spoil := range badSpans {
		s := plain()
		spoil(&s)
		if e := batch.CheckSpan(s); e != api.ErrBatch {
			t.Errorf("%d: %v: %v", i, s, e)
		}
	}
	if e := batch.CheckSpan(api.Span{}); e != api.ErrBatch {
		t.Errorf("the zero span: %v", e)
	}
}

// P9.1: a batch may not be, if one of its spans may not, whichever.
func TestEachSpan(t *testing.T) {
	for i, spoil := range badSpans {
		for _, n := range []int{1, 2, 16} {
			for at := range n {
				b := many(n)
				spoil(&b.Spans[at])
				if e := batch.Check(b); e != api.ErrBatch {
					t.Errorf("%d: span %d of %d: %v", i, at, n, e)
				}
				if x, e := batch.Bytes(b); len(x) != 0 || e != api.ErrBatch {
					t.Errorf("%d: span %d of %d: %x, %v", i, at, n, x, e)
				}
			}
		}
	}
}

// P9.1, P9.2: which batches may be.
func TestCheck(t *testing.T) {
	for _, n := range []int{1, 2, 15, 16} {
		for _, agent := range []int{1, 2, 15, 16} {
			for _, seq := range []int{1, 2, 127, 128, api.MaxNumber - 1, api.MaxNumber} {
				b := many(n)
				b.Agent, b.Seq = agent, seq
				if e := batch.Check(b); e != api.OK {
					t.Errorf("%d, %d, %d spans: %v", agent, seq, n, e)
				}
				holds(t, b)
			}
		}
	}
	for i, spoil := range badBatches {
		b := many(3)
		spoil(&b)
		if e := batch.Check(b); e != api.ErrBatch {
			t.Errorf("%d: %v", i, e)
		}
		if x, e := batch.Bytes(b); len(x) != 0 || e != api.ErrBatch {
			t.Errorf("%d: %x, %v", i, x, e)
		}
	}
	if e := batch.Check(api.Batch{}); e != api.ErrBatch {
		t.Errorf("the zero batch: %v", e)
	}
}

// P9.1, P9.2: its bytes are at most MaxBatch: one more is too much, written and read.
func TestMost(t *testing.T) {
	for _, size := range []int{api.MaxBatch - 1, api.MaxBatch, api.MaxBatch + 1, api.MaxBatch + 2} {
		b := sized(t, size)
		want := api.OK
		if size > api.MaxBatch {
			want = api.ErrBatch
		}
		for i, s := range b.Spans {
			if e := batch.CheckSpan(s); e != api.OK {
				t.Fatalf("span %d: %v", i, e)
			}
		}
		if e := batch.Check(b); e != want {
			t.Errorf("%d: %v", size, e)
		}
		x, e := batch.Bytes(b)
		if e != want || want == api.OK && !bytes.Equal(x, told(b)) || want != api.OK && len(x) != 0 {
			t.Errorf("%d: %d bytes, %v", size, len(x), e)
		}
		back, e := batch.Parse(told(b))
		if e != want || want == api.OK && !alike(back, b) || want != api.OK && !alike(back, api.Batch{}) {
			t.Errorf("%d: %d spans, %v", size, len(back.Spans), e)
		}
	}
	full := fullest()
	if e := batch.Check(full); e != api.ErrBatch {
		t.Errorf("all that spans may have: %v", e)
	}
}

// P9.2: bytes of what may not be are none; each of them is just beside bytes that are some.
func TestParseWhatMayNotBe(t *testing.T) {
	for i, spoil := range badSpans {
		for _, at := range []int{0, 1, 2} {
			b := many(3)
			spoil(&b.Spans[at])
			if x, ok := tellable(b); ok {
				isNone(t, i, x)
			}
		}
	}
	for i, spoil := range badBatches {
		b := many(3)
		spoil(&b)
		if x, ok := tellable(b); ok {
			isNone(t, i, x)
		}
	}
}

// P9.2: numbers that are written longer than they need be, or that are none, are no batch's.
func TestParseOtherNumbers(t *testing.T) {
	want := told(of(1, 2, plain()))
	// Where a number, or a count, stands in the bytes of that batch.
	for _, at := range []int{0, 1, 2, 3, 4, 5, 6, 7, 8, 10, 12, 13} {
		for _, other := range [][]byte{
			{0x80, want[at]}, {0xC0, 0, want[at]}, {0xFE, 0, 0, 0, 0, 0, 0, want[at]}, {0xFF}, {0xFF, want[at]}, {0xFE, 0x20, 0, 0, 0, 0, 0, 0}, {0xFE, 0xFF, 0xFF, 0xFF, 0xFF, 0xFF, 0xFF, 0xFF},
		} {
			isNone(t, at, slices.Concat(want[:at], other, want[at+1:]))
		}
	}
}

// P9.2: a count that is not the one of the spans that come.
func TestParseCounts(t *testing.T) {
	for n := range 18 {
		head := slices.Concat(num(1), num(2))
		var tail []byte
		for range n {
			tail = append(tail, toldSpan(plain())...)
		}
		for _, count := range []int{0, 1, 2, 3, 15, 16, 17, 18, 127, 128, 1 << 32, 1<<32 + 1, api.MaxNumber} {
			x := slices.Concat(head, num(count), tail)
			b, e := batch.Parse(x)
			if count == n && n >= 1 && n <= 16 {
				if e != api.OK || len(b.Spans) != n {
					t.Errorf("%d spans: %v", n, e)
				}
			} else if e != api.ErrBatch || !alike(b, api.Batch{}) {
				t.Errorf("%d spans, told %d: %v, %v", n, count, b, e)
			}
		}
	}
}

// P9.2: things that are no bytes of a batch at all.
func TestParseNone(t *testing.T) {
	for i, b := range [][]byte{nil, {}, {0}, {1}, {1, 1}, {1, 1, 1}, {1, 1, 0}, []byte("batch"), make([]byte, 14), make([]byte, api.MaxBatch), make([]byte, api.MaxBatch+1), make([]byte, 1<<24), bytes.Repeat([]byte{1}, 100), bytes.Repeat([]byte{0xFF}, 100)} {
		isNone(t, i, b)
	}
}

// P9.1: Same tells whether all fields are, also of batches that may not be.
func TestSame(t *testing.T) {
	for _, b := range []api.Batch{many(1), many(3), many(16), {}, {Agent: -1, Seq: math.MinInt, Spans: []api.Span{{Trace: -1, Service: "A"}}}} {
		if !batch.Same(b, b) || !batch.Same(b, copied(b)) {
			t.Errorf("%v: not as itself", b)
		}
	}
	for i, change := range changes {
		for _, n := range []int{1, 3, 16} {
			a, b := many(n), many(n)
			change(&b, n-1)
			if batch.Same(a, b) || batch.Same(b, a) {
				t.Errorf("%d: %v is as %v", i, a, b)
			}
			if !batch.Same(b, copied(b)) {
				t.Errorf("%d: %v is not as itself", i, b)
			}
		}
	}
	a, b := many(3), many(3)
	b.Spans = b.Spans[:2]
	if batch.Same(a, b) || batch.Same(b, a) || batch.Same(a, api.Batch{Agent: a.Agent, Seq: a.Seq}) || batch.Same(api.Batch{Agent: a.Agent, Seq: a.Seq}, a) {
		t.Error("fewer spans")
	}
}

// P9.1: Same looks at each field of each attribute.
func TestSameAttrs(t *testing.T) {
	for i, change := range []func(*api.Attr){
		func(a *api.Attr) { a.Name += "x" },
		func(a *api.Attr) { a.Label.Level++ },
		func(a *api.Attr) { a.Label.Parts ^= 1 << 31 },
		func(a *api.Attr) { a.Value.Kind = 0 },
		func(a *api.Attr) { a.Value.N = math.MinInt },
		func(a *api.Attr) { a.Value.B += "\x00" },
	} {
		for at := range api.MaxAttrs {
			a, b := many(2), many(2)
			a.Spans[1].Attrs, b.Spans[1].Attrs = attrs(8), attrs(8)
			if !batch.Same(a, b) {
				t.Fatal("not as itself")
			}
			change(&b.Spans[1].Attrs[at])
			if batch.Same(a, b) || batch.Same(b, a) {
				t.Errorf("%d: attribute %d: %v is as %v", i, at, a, b)
			}
		}
	}
}

// P9.1: a list without elements may be nil or not; it is the same.
func TestNilLists(t *testing.T) {
	a, b := api.Batch{Agent: 1, Seq: 1}, api.Batch{Agent: 1, Seq: 1, Spans: []api.Span{}}
	if !batch.Same(a, b) || !batch.Same(b, a) {
		t.Error("no spans")
	}
	a, b = of(1, 1, plain()), of(1, 1, plain())
	b.Spans[0].Attrs = []api.Attr{}
	if !batch.Same(a, b) || !batch.Same(b, a) {
		t.Error("no attributes")
	}
	x, e := batch.Bytes(a)
	y, f := batch.Bytes(b)
	if e != api.OK || f != api.OK || !bytes.Equal(x, y) {
		t.Errorf("%x, %v; %x, %v", x, e, y, f)
	}
}

// P9.3: what is handed in is only read, its spare room neither.
func TestOnlyRead(t *testing.T) {
	long := many(16)
	kept := copied(long)
	for n := range 17 {
		b := api.Batch{Agent: 1, Seq: 1, Spans: long.Spans[:n]}
		for i := range b.Spans {
			b.Spans[i].Attrs = b.Spans[i].Attrs[:min(1, len(b.Spans[i].Attrs))]
		}
		batch.Check(b)
		batch.Bytes(b)
		batch.Same(b, b)
		batch.Same(b, many(n))
		for i := range b.Spans {
			batch.CheckSpan(b.Spans[i])
			b.Spans[i].Attrs = b.Spans[i].Attrs[:len(kept.Spans[i].Attrs)]
		}
		if !alike(long, kept) {
			t.Fatalf("%d spans: changed", n)
		}
	}
	room := bytes.Repeat([]byte{0xAA}, 2*api.MaxBatch)
	for _, b := range []api.Batch{many(1), many(16), sized(t, api.MaxBatch)} {
		x := told(b)
		copy(room, x)
		before := slices.Clone(room)
		for _, n := range []int{0, 1, len(x) - 1, len(x), len(x) + 1} {
			batch.Parse(room[:n])
		}
		if !bytes.Equal(room, before) {
			t.Fatal("Parse changes what it reads")
		}
	}
}

// P9.3: what is answered is new memory, each time; no two lists of one answer share any.
func TestNew(t *testing.T) {
	b := many(16)
	want := told(b)
	first, _ := batch.Bytes(b)
	for i := range first[:cap(first)] {
		first[:cap(first)][i] = 0xAA
	}
	if second, e := batch.Bytes(b); !bytes.Equal(second, want) || e != api.OK || !alike(b, many(16)) {
		t.Errorf("%x, %v", second, e)
	}

	x := slices.Clone(want)
	one, _ := batch.Parse(x)
	for i := range x {
		x[i] = 0xAA
	}
	if !alike(one, b) {
		t.Error("what was read keeps the bytes")
	}
	two, _ := batch.Parse(want)
	for i, s := range one.Spans {
		for j := range s.Attrs[:cap(s.Attrs)] {
			s.Attrs[:cap(s.Attrs)][j] = api.Attr{Name: "spoilt"}
		}
		for j := i + 1; j < len(one.Spans); j++ {
			if !slices.Equal(one.Spans[j].Attrs, b.Spans[j].Attrs) {
				t.Fatalf("spans %d and %d share attributes", i, j)
			}
		}
	}
	for i := range one.Spans[:cap(one.Spans)] {
		one.Spans[:cap(one.Spans)][i] = api.Span{Service: "spoilt"}
	}
	if !alike(two, b) {
		t.Error("two that were read share memory")
	}
	if three, e := batch.Parse(want); !alike(three, b) || e != api.OK {
		t.Errorf("%v, %v", three, e)
	}
}

// P9.1, R1: long lists and texts are told at once.
func TestHuge(t *testing.T) {
	long := strings.Repeat("a", 1<<20)
	b := of(1, 1, plain())
	b.Spans = slices.Repeat(b.Spans, 1<<16)
	if e := batch.Check(b); e != api.ErrBatch {
		t.Errorf("spans: %v", e)
	}
	for _, s := range []api.Span{
		{Trace: 1, ID: 1, Service: long, Op: "a"},
		{Trace: 1, ID: 1, Service: "a", Op: long},
		{Trace: 1, ID: 1, Service: "a", Op: "a", Subject: long},
		{Trace: 1, ID: 1, Service: "a", Op: "a", Attrs: make([]api.Attr, 1<<20)},
	} {
		if e := batch.CheckSpan(s); e != api.ErrBatch {
			t.Errorf("%v", e)
		}
	}
}
