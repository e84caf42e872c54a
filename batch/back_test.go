package batch_test

import (
	"bytes"
	"math/rand"
	"slices"
	"strings"
	"testing"

	"muslin/api"
	"muslin/batch"
)

// readAs holds Parse to the second reader, and, if bytes can be read, to what is written of that.
func readAs(t *testing.T, b []byte) bool {
	t.Helper()
	want, ok := parsed(b)
	got, e := batch.Parse(b)
	if ok != (e == api.OK) || !ok && e != api.ErrBatch || !alike(got, want) {
		t.Fatalf("%.300x: %.300v, %v; %.300v", b, got, e, want)
	}
	if ok {
		if back, e := batch.Bytes(got); e != api.OK || !bytes.Equal(back, b) {
			t.Fatalf("%.300x is written %.300x, %v", b, back, e)
		}
		if batch.Check(got) != api.OK {
			t.Fatalf("%.300x: read, but may not be", b)
		}
	}
	return ok
}

// P9.4: what was written is read as it was; with a byte more, or less, it is none.
func TestBack(t *testing.T) {
	draw := rand.New(rand.NewSource(91))
	tooLong := 0
	for range 1000 {
		b := drawnBatch(draw)
		x := told(b)
		if len(x) > api.MaxBatch {
			tooLong++
			if e := batch.Check(b); e != api.ErrBatch {
				t.Fatalf("%d bytes: %v", len(x), e)
			}
			continue
		}
		holds(t, b)
		for _, behind := range []byte{0, 1, 0x80, 0xFF, x[0], byte(draw.Intn(256))} {
			isNone(t, len(x), append(slices.Clip(x), behind))
			isNone(t, len(x), append([]byte{behind}, x...)[:len(x)+1])
		}
		isNone(t, len(x), x[:len(x)-1])
		isNone(t, len(x), x[:draw.Intn(len(x))])
		isNone(t, len(x), slices.Concat(x, x))
	}
	if tooLong == 0 || tooLong > 500 {
		t.Errorf("%d were too long", tooLong)
	}
}

// P9.4: cut short anywhere it is none.
func TestShort(t *testing.T) {
	for _, b := range []api.Batch{of(1, 2, plain()), many(3), many(16)} {
		x := told(b)
		for n := range x {
			isNone(t, n, x[:n])
		}
	}
	x := told(sized(t, api.MaxBatch))
	isNone(t, 0, append(slices.Clip(x), 0))
	isNone(t, 1, x[:len(x)-1])
}

// P9.2, P9.4: each byte at each place: what can be read is written so.
func TestEachByte(t *testing.T) {
	for _, b := range []api.Batch{of(1, 2, plain()), many(2), many(4)} {
		x := told(b)
		read := 0
		for i := range x {
			for c := range 256 {
				y := slices.Clone(x)
				y[i] = byte(c)
				if readAs(t, y) {
					read++
				}
			}
		}
		if read <= len(x) || read == 256*len(x) {
			t.Errorf("%d of %d were read", read, 256*len(x))
		}
	}
}

// P9.2, P9.4: batches in which bytes are turned, left out or put in.
func TestSpoilt(t *testing.T) {
	draw := rand.New(rand.NewSource(92))
	for range 3000 {
		x := told(drawnBatch(draw))
		for range 1 + draw.Intn(3) {
			i := draw.Intn(len(x))
			switch draw.Intn(4) {
			case 0:
				x[i] ^= 1 << draw.Intn(8)
			case 1:
				x = slices.Delete(x, i, i+1)
			case 2:
				x = slices.Insert(x, i, byte(draw.Intn(256)))
			case 3:
				j := min(len(x), i+draw.Intn(30))
				x = slices.Concat(x[:j], x[i:j], x[j:])
			}
		}
		readAs(t, x)
	}
	for range 20000 {
		x := make([]byte, draw.Intn(40))
		for i := range x {
			x[i] = "\x00\x01\x02\x03a\x80\xff"[draw.Intn(7)]
		}
		readAs(t, x)
	}
}

// P9.5: how many bytes there are hangs on how many each number, name, label and value has alone: others of the same lengths make no difference.
func TestLengths(t *testing.T) {
	draw := rand.New(rand.NewSource(93))
	for range 500 {
		b := drawnBatch(draw)
		if batch.Check(b) != api.OK {
			continue
		}
		other := copied(b)
		for i := range other.Spans {
			s := &other.Spans[i]
			s.Subject = strings.Repeat("w", len(s.Subject))
			s.Service, s.Op = "q"+s.Service[1:], "r"+s.Op[1:]
			for _, n := range []*int{&s.Trace, &s.ID, &s.Parent, &s.Start, &s.Length} {
				// The last bit of a number is of its last byte.
				if *n > 1 && s.Start+s.Length < api.MaxNumber-1 && *n < api.MaxNumber {
					*n ^= 1
				}
			}
			for j := range s.Attrs {
				v := &s.Attrs[j].Value
				switch v.Kind {
				case api.KindInt:
					v.N = -v.N
				case api.KindBytes:
					v.B = strings.Repeat("w", len(v.B))
				case api.KindBool:
					v.N = 1 - v.N
				}
			}
		}
		x, e := batch.Bytes(b)
		y, f := batch.Bytes(other)
		want := len(num(b.Agent)) + len(num(b.Seq)) + len(num(len(b.Spans)))
		for _, s := range b.Spans {
			want += len(toldSpan(s))
		}
		if e != api.OK || f != api.OK || len(x) != want || len(y)-len(x) != grown(b, other) {
			t.Fatalf("%.300v: %d bytes; %.300v: %d bytes, %v, %v", b, len(x), other, len(y), e, f)
		}
	}
}

// grown tells how many bytes more the ints of a second batch have (a number and the one with the other sign may have unlike many).
func grown(a, b api.Batch) (n int) {
	for i := range a.Spans {
		for j, x := range a.Spans[i].Attrs {
			y := b.Spans[i].Attrs[j]
			n += len(toldSpan(api.Span{Attrs: []api.Attr{y}})) - len(toldSpan(api.Span{Attrs: []api.Attr{x}}))
		}
	}
	return n
}

// P9.6: a batch that may be may be without one of its spans, but the last one, and in another order.
func TestFewerAndOtherOrder(t *testing.T) {
	draw := rand.New(rand.NewSource(94))
	all := []api.Batch{of(1, 2, plain()), many(16), sized(t, api.MaxBatch)}
	for range 300 {
		if b := drawnBatch(draw); batch.Check(b) == api.OK {
			all = append(all, b)
		}
	}
	for _, b := range all {
		for i := range b.Spans {
			fewer := copied(b)
			fewer.Spans = slices.Delete(fewer.Spans, i, i+1)
			if len(fewer.Spans) == 0 {
				if e := batch.Check(fewer); e != api.ErrBatch {
					t.Errorf("without any span: %v", e)
				}
				continue
			}
			if e := batch.Check(fewer); e != api.OK {
				t.Errorf("without span %d of %d: %v", i, len(b.Spans), e)
			}
			holds(t, fewer)
		}
		mixed := copied(b)
		draw.Shuffle(len(mixed.Spans), func(i, j int) {
			mixed.Spans[i], mixed.Spans[j] = mixed.Spans[j], mixed.Spans[i]
		})
		holds(t, mixed)
		slices.Reverse(mixed.Spans)
		holds(t, mixed)
	}
}

// FuzzParse looks for bytes that are read wrongly (P9.2, P9.4).
func FuzzParse(f *testing.F) {
	draw := rand.New(rand.NewSource(95))
	for n := range 16 {
		f.Add(told(many(n + 1)))
		f.Add(told(of(1, 1, drawnSpan(draw))))
	}
	f.Add(told(of(1, 2, plain())))
	f.Fuzz(func(t *testing.T, b []byte) {
		readAs(t, b)
	})
}
