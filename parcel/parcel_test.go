package parcel_test

import (
	"bytes"
	"encoding/binary"
	"hash/crc32"
	"math"
	"math/rand"
	"slices"
	"testing"

	"muslin/api"
	"muslin/parcel"
)

// parcels are kinds and bodies, in order.
type parcels struct {
	kinds  []int
	bodies [][]byte
}

// spelt writes a number from 0 to 65536 in so many bytes, 3 at most, whether or not that is as few as can be.
func spelt(n, size int) []byte {
	switch size {
	case 1:
		return []byte{byte(n)}
	case 2:
		return []byte{0x80 | byte(n/256), byte(n % 256)}
	}
	return []byte{0xC0 | byte(n/65536), byte(n / 256 % 256), byte(n % 256)}
}

// few tells in how few bytes a number up to 65536 can be written.
func few(n int) int {
	switch {
	case n < 128:
		return 1
	case n < 16384:
		return 2
	}
	return 3
}

// summed puts the sum of bytes behind them, by the library.
func summed(parts ...[]byte) []byte {
	b := slices.Concat(parts...)
	return binary.LittleEndian.AppendUint32(b, crc32.ChecksumIEEE(b))
}

// framed is a frame as the chapter's section 'Words' tells it; the package's own are held against it.
func framed(kind int, body []byte) []byte {
	return summed(spelt(kind, few(kind)), spelt(len(body), few(len(body))), body)
}

// count reads a number up to most, as the document tells it, and how many bytes it has.
func count(b []byte, most int) (n, size int, e api.Errno) {
	if len(b) == 0 {
		return 0, 0, api.ErrTrunc
	}
	for size = 1; b[0]>>(8-size)&1 == 1; size++ {
		if size == 8 {
			return 0, 0, api.ErrSum
		}
	}
	if len(b) < size {
		return 0, 0, api.ErrTrunc
	}
	var room [8]byte
	copy(room[8-size:], b[:size])
	n = int(binary.BigEndian.Uint64(room[:]) & (1<<(7*size) - 1))
	if n > most || size > 1 && n < 1<<(7*(size-1)) {
		return 0, 0, api.ErrSum
	}
	return n, size, api.OK
}

// taken is what Next is to answer: each part looked at as far as it is there, in their order.
func taken(b []byte) (kind int, body, rest []byte, e api.Errno) {
	kind, first, e := count(b, 127)
	if e != api.OK {
		return 0, nil, nil, e
	}
	many, second, e := count(b[first:], 65536)
	if e != api.OK {
		return 0, nil, nil, e
	}
	at := first + second
	if len(b)-at < many+4 {
		return 0, nil, nil, api.ErrTrunc
	}
	if binary.LittleEndian.Uint32(b[at+many:]) != crc32.ChecksumIEEE(b[:at+many]) {
		return 0, nil, nil, api.ErrSum
	}
	return kind, b[at : at+many], b[at+many+4:], api.OK
}

// takenAll is what All is to answer.
func takenAll(b []byte) (all parcels, rest []byte, e api.Errno) {
	for {
		kind, body, rest, e := taken(b)
		switch e {
		case api.ErrTrunc:
			return all, b, api.OK
		case api.ErrSum:
			return parcels{}, nil, e
		}
		all.kinds = append(all.kinds, kind)
		all.bodies = append(all.bodies, body)
		b = rest
	}
}

// looked holds what Next and All answer to what they are to answer.
func looked(t *testing.T, b []byte) {
	t.Helper()
	was := bytes.Clone(b)
	kind, body, rest, e := parcel.Next(b)
	wantKind, wantBody, wantRest, want := taken(b)
	if kind != wantKind || !bytes.Equal(body, wantBody) || !bytes.Equal(rest, wantRest) || e != want {
		t.Fatalf("Next of %.40X: %d, %.40X, %.40X, %v; not %d, %.40X, %.40X, %v", b, kind, body, rest, e, wantKind, wantBody, wantRest, want)
	}
	kinds, bodies, rest, e := parcel.All(b)
	all, wantRest, want := takenAll(b)
	if !slices.Equal(kinds, all.kinds) || !slices.EqualFunc(bodies, all.bodies, bytes.Equal) || !bytes.Equal(rest, wantRest) || e != want {
		t.Fatalf("All of %.40X: %d, %.40X, %.40X, %v; not %d, %.40X, %.40X, %v", b, kinds, bodies, rest, e, all.kinds, all.bodies, wantRest, want)
	}
	if !bytes.Equal(b, was) {
		t.Fatalf("%.40X was changed", was)
	}
}

func pack(t *testing.T, kind int, body []byte) []byte {
	t.Helper()
	b, e := parcel.Pack(kind, body)
	if e != api.OK {
		t.Fatalf("Pack(%d) of %d bytes: %v", kind, len(body), e)
	}
	return b
}

// some are bytes of that many, drawn from a source that tells the same ones each time.
func some(draw *rand.Rand, n int) []byte {
	b := make([]byte, n)
	draw.Read(b)
	return b
}

// sizes are those of bodies around which something turns.
func sizes() []int {
	return []int{0, 1, 2, 3, 4, 5, 63, 64, 126, 127, 128, 129, 255, 256, 8192, 16383, 16384, 16385, 65534, 65535, 65536}
}

// P3.1, P3.2: the chapter's examples.
func TestExamples(t *testing.T) {
	b := pack(t, 1, []byte{7})
	if len(b) != 7 || !bytes.Equal(b[:3], []byte{1, 1, 7}) || !bytes.Equal(b, framed(1, []byte{7})) {
		t.Errorf("Pack(1, 07): %X", b)
	}
	if kind, body, rest, e := parcel.Next(b[:6]); kind != 0 || len(body)+len(rest) != 0 || e != api.ErrTrunc {
		t.Errorf("Next of the first 6 bytes: %d, %X, %X, %v", kind, body, rest, e)
	}
	if kind, body, rest, e := parcel.Next([]byte{0x80, 0}); kind != 0 || len(body)+len(rest) != 0 || e != api.ErrSum {
		t.Errorf("Next of 80 00: %d, %X, %X, %v", kind, body, rest, e)
	}
}

// P3.1: frames of each kind, and of bodies of each size.
func TestPack(t *testing.T) {
	draw := rand.New(rand.NewSource(1))
	for kind := range 128 {
		body := some(draw, kind)
		if got, want := pack(t, kind, body), framed(kind, body); !bytes.Equal(got, want) {
			t.Errorf("Pack(%d, %X): %X, not %X", kind, body, got, want)
		}
	}
	for _, n := range sizes() {
		body := some(draw, n)
		for _, kind := range []int{0, 1, 127} {
			if got, want := pack(t, kind, body), framed(kind, body); !bytes.Equal(got, want) {
				t.Errorf("Pack(%d) of %d bytes: %d bytes, not %d, or others", kind, n, len(got), len(want))
			}
		}
	}
	if got := pack(t, 0, nil); !bytes.Equal(got, []byte{0, 0, 0xFF, 0x12, 0xD9, 0x41}) {
		t.Errorf("Pack(0, nil): %X", got)
	}
}

// P3.1: what may not be packed: the kind is looked at first.
func TestPackRefuses(t *testing.T) {
	for _, c := range []struct {
		kind, size int
		want       api.Errno
	}{
		{-1, 0, api.ErrArg}, {-1, 1, api.ErrArg}, {-128, 1, api.ErrArg}, {128, 1, api.ErrArg}, {129, 1, api.ErrArg},
		{255, 1, api.ErrArg}, {256, 1, api.ErrArg}, {math.MaxInt, 1, api.ErrArg}, {math.MinInt, 1, api.ErrArg},
		{128, 65537, api.ErrArg}, {-1, 65537, api.ErrArg},
		{0, 65537, api.ErrLimit}, {127, 65537, api.ErrLimit}, {1, 65538, api.ErrLimit}, {1, 1 << 20, api.ErrLimit},
	} {
		if b, e := parcel.Pack(c.kind, make([]byte, c.size)); len(b) != 0 || e != c.want {
			t.Errorf("Pack(%d) of %d bytes: %d bytes, %v, not %v", c.kind, c.size, len(b), e, c.want)
		}
	}
}

// P3.2: what is torn, what is wrong: the kind first, then the number, then the sum, each as soon as it is there.
func TestTornAndWrong(t *testing.T) {
	body := []byte{7, 8}
	whole := framed(3, body)
	for _, c := range []struct {
		name string
		b    []byte
		want api.Errno
	}{
		{"nil", nil, api.ErrTrunc},
		{"nothing", []byte{}, api.ErrTrunc},
		{"a kind alone", []byte{0}, api.ErrTrunc},
		{"the last kind alone", []byte{127}, api.ErrTrunc},
		{"half a kind", []byte{0x80}, api.ErrTrunc},
		{"a piece of a kind of 8 bytes", []byte{0xFE, 0x1F, 0, 0, 0, 0, 0}, api.ErrTrunc},
		{"kind 128, no more", []byte{0x80, 0x80}, api.ErrSum},
		{"kind 127 in two bytes, no more", []byte{0x80, 127}, api.ErrSum},
		{"kind 1 in three bytes, no more", []byte{0xC0, 0, 1}, api.ErrSum},
		{"a kind of 8 bytes, no more", []byte{0xFE, 0x1F, 0, 0, 0, 0, 0, 0}, api.ErrSum},
		{"a kind that is no number", []byte{0xFE, 0xFF, 0xFF, 0xFF, 0xFF, 0xFF, 0xFF, 0xFF}, api.ErrSum},
		{"a kind of eight bits 1", []byte{0xFF}, api.ErrSum},
		{"kind 128, half a number", []byte{0x80, 0x80, 0x80}, api.ErrSum},
		{"kind 128, all else right", summed([]byte{0x80, 0x80, 2}, body), api.ErrSum},
		{"kind 3 in two bytes, all else right", summed([]byte{0x80, 3, 2}, body), api.ErrSum},
		{"kind 200 of 8 bytes, all else right", summed([]byte{0xFE, 0, 0, 0, 0, 0, 0, 200, 2}, body), api.ErrSum},
		{"half a number", []byte{3, 0x80}, api.ErrTrunc},
		{"two thirds of a number", []byte{3, 0xC1, 0}, api.ErrTrunc},
		{"a piece of a number of 8 bytes", []byte{3, 0xFE, 0xFF, 0xFF, 0xFF, 0xFF, 0xFF, 0xFF}, api.ErrTrunc},
		{"a number of eight bits 1", []byte{3, 0xFF}, api.ErrSum},
		{"number 2 in two bytes, no more", []byte{3, 0x80, 2}, api.ErrSum},
		{"number 2 in two bytes, all else right", summed([]byte{3, 0x80, 2}, body), api.ErrSum},
		{"number 0 in three bytes, all else right", summed([]byte{3, 0xC0, 0, 0}), api.ErrSum},
		{"number 65537, no more", []byte{3, 0xC1, 0, 1}, api.ErrSum},
		{"number 65537, all else right", summed([]byte{3, 0xC1, 0, 1}, make([]byte, 65537)), api.ErrSum},
		{"number MaxNumber", []byte{3, 0xFE, 0x1F, 0xFF, 0xFF, 0xFF, 0xFF, 0xFF, 0xFF}, api.ErrSum},
		{"number 2^53", []byte{3, 0xFE, 0x20, 0, 0, 0, 0, 0, 0}, api.ErrSum},
		{"number 65536, no body", []byte{3, 0xC1, 0, 0}, api.ErrTrunc},
		{"number 65536, a byte missing of the sum", framed(3, make([]byte, 65536))[:65536+7], api.ErrTrunc},
		{"a body, no sum", whole[:4], api.ErrTrunc},
		{"a wrong piece of a sum", append(slices.Clone(whole[:4]), ^whole[4], ^whole[5], ^whole[6]), api.ErrTrunc},
		{"a wrong sum", append(slices.Clone(whole[:7]), ^whole[7]), api.ErrSum},
		{"a sum the other way round", append(slices.Clone(whole[:4]), whole[7], whole[6], whole[5], whole[4]), api.ErrSum},
		{"the sum of the body alone", slices.Concat(whole[:4], summed(body)[2:]), api.ErrSum},
		{"a sum of 0", append(slices.Clone(whole[:4]), 0, 0, 0, 0), api.ErrSum},
		{"a wrong sum, and a frame behind", slices.Concat(whole[:7], []byte{^whole[7]}, whole), api.ErrSum},
		{"the whole", whole, api.OK},
		{"no body", framed(3, nil), api.OK},
	} {
		kind, got, rest, e := parcel.Next(c.b)
		if e != c.want || e != api.OK && (kind != 0 || len(got)+len(rest) != 0) {
			t.Errorf("Next of %s: %d, %X, %X, %v, not %v", c.name, kind, got, rest, e, c.want)
		}
		looked(t, c.b)
	}
}

// P3.2: kind, body, and what stands behind.
func TestNext(t *testing.T) {
	draw := rand.New(rand.NewSource(2))
	for _, n := range sizes() {
		body := some(draw, n)
		for _, behind := range [][]byte{nil, {0}, {0xFF}, some(draw, 30), framed(9, body)} {
			kind, got, rest, e := parcel.Next(slices.Concat(framed(n%128, body), behind))
			if kind != n%128 || !bytes.Equal(got, body) || !bytes.Equal(rest, behind) || e != api.OK {
				t.Errorf("Next, %d bytes in a frame, %d behind: %d, %d bytes, %d behind, %v", n, len(behind), kind, len(got), len(rest), e)
			}
		}
	}
}

// P3.2, P3.3, R1: all bytes up to two, and such as are near to frames.
func TestAnyBytes(t *testing.T) {
	for first := range 256 {
		looked(t, []byte{byte(first)})
		for second := range 256 {
			looked(t, []byte{byte(first), byte(second)})
		}
	}
	draw := rand.New(rand.NewSource(3))
	turns := []byte{0, 1, 2, 3, 0x7F, 0x80, 0x81, 0xBF, 0xC0, 0xC1, 0xE0, 0xF0, 0xFE, 0xFF}
	for range 60000 {
		b := make([]byte, draw.Intn(24))
		for i := range b {
			b[i] = turns[draw.Intn(len(turns))]
		}
		looked(t, b)
		looked(t, summed(b))
		looked(t, slices.Concat(framed(draw.Intn(128), b), b))
	}
}

// P3.3: all that are whole, and what is left.
func TestAll(t *testing.T) {
	draw := rand.New(rand.NewSource(4))
	for many := range 8 {
		var want parcels
		var b []byte
		for range many {
			body := some(draw, draw.Intn(300))
			want.kinds, want.bodies = append(want.kinds, draw.Intn(128)), append(want.bodies, body)
			b = append(b, framed(want.kinds[len(want.kinds)-1], body)...)
		}
		last := framed(5, some(draw, 140))
		for cut := range len(last) {
			kinds, bodies, rest, e := parcel.All(slices.Concat(b, last[:cut]))
			if !slices.Equal(kinds, want.kinds) || !slices.EqualFunc(bodies, want.bodies, bytes.Equal) || !bytes.Equal(rest, last[:cut]) || e != api.OK {
				t.Fatalf("All of %d frames, and %d bytes of one: %d kinds, %d bodies, %d bytes left, %v", many, cut, len(kinds), len(bodies), len(rest), e)
			}
		}
	}
	for _, b := range [][]byte{nil, {}} {
		if kinds, bodies, rest, e := parcel.All(b); len(kinds)+len(bodies)+len(rest) != 0 || e != api.OK {
			t.Errorf("All of nothing: %d, %X, %X, %v", kinds, bodies, rest, e)
		}
	}
}

// P3.3: one that is wrong, wherever it stands, and nothing beside its error.
func TestAllWrong(t *testing.T) {
	good := framed(1, []byte{7, 8, 9})
	bad := bytes.Clone(good)
	bad[3] ^= 1
	for _, c := range [][]byte{bad, {0x80, 0}, {0xFF}, {1, 0xFF}, {1, 0xC1, 0, 1}} {
		for ahead := range 4 {
			for _, behind := range [][]byte{nil, good, good[:3]} {
				b := slices.Concat(bytes.Repeat(good, ahead), c, behind)
				if kinds, bodies, rest, e := parcel.All(b); len(kinds)+len(bodies)+len(rest) != 0 || e != api.ErrSum {
					t.Errorf("All of %X: %d, %X, %X, %v", b, kinds, bodies, rest, e)
				}
			}
		}
	}
	// What stands behind where bytes are torn can't be looked at: it is what is missing, as far as can be told.
	torn := slices.Concat(good, []byte{2, 100}, bad)
	if kinds, bodies, rest, e := parcel.All(torn); !slices.Equal(kinds, []int{1}) || len(bodies) != 1 || !bytes.Equal(rest, torn[len(good):]) || e != api.OK {
		t.Errorf("All of %X: %d, %X, %X, %v", torn, kinds, bodies, rest, e)
	}
}

// R1: many small frames are taken off in a time that does not grow with how many stand behind each of them.
func TestManyFrames(t *testing.T) {
	const many = 200000
	kinds, bodies, rest, e := parcel.All(append(bytes.Repeat(framed(6, nil), many), 1, 2))
	if len(kinds) != many || len(bodies) != many || !bytes.Equal(rest, []byte{1, 2}) || e != api.OK {
		t.Errorf("All of %d frames: %d, %d, %X, %v", many, len(kinds), len(bodies), rest, e)
	}
}

// spoil turns all bits of bytes, and of their spare room.
func spoil(b []byte) {
	b = b[:cap(b)]
	for i := range b {
		b[i] ^= 0xFF
	}
}

// P3.4: what is packed shares nothing with what was handed in.
func TestPackMemory(t *testing.T) {
	for _, n := range []int{0, 1, 100, 20000} {
		body := some(rand.New(rand.NewSource(5)), n)
		room := append(bytes.Clone(body), make([]byte, 40)...)
		one, two := pack(t, 4, room[:n]), pack(t, 4, room[:n])
		if !bytes.Equal(room[:n], body) || !bytes.Equal(room[n:], make([]byte, 40)) {
			t.Errorf("%d bytes: what was handed in was changed", n)
		}
		spoil(room)
		spoil(one)
		if want := framed(4, body); !bytes.Equal(two, want) || !bytes.Equal(pack(t, 4, body), want) {
			t.Errorf("%d bytes: what was packed shares memory", n)
		}
	}
}

// P3.4: what is taken out shares nothing with what was handed in, nor with each other.
func TestTakenMemory(t *testing.T) {
	one, two, three := framed(1, []byte{1, 2, 3}), framed(2, nil), framed(3, bytes.Repeat([]byte{5}, 130))
	left := []byte{9, 50, 1}
	room := slices.Concat(one, two, three, left, make([]byte, 40))
	was := bytes.Clone(room)
	b := room[:len(room)-40]

	_, body, rest, e := parcel.Next(b)
	_, bodies, last, e2 := parcel.All(b)
	if e != api.OK || e2 != api.OK || !bytes.Equal(room, was) {
		t.Fatalf("%v, %v, or what was handed in was changed", e, e2)
	}
	parts := append([][]byte{body, rest, last}, bodies...)
	want := [][]byte{{1, 2, 3}, slices.Concat(two, three, left), left, {1, 2, 3}, {}, bytes.Repeat([]byte{5}, 130)}
	spoil(room)
	for i := range parts {
		for j := i; j < len(parts); j++ {
			if !bytes.Equal(parts[j], want[j]) {
				t.Fatalf("part %d is %X, not %X, as what was handed in or part %d has changed", j, parts[j], want[j], i-1)
			}
		}
		spoil(parts[i])
	}
	if spoil(room); !bytes.Equal(room, was) {
		t.Errorf("what was handed in shares memory with what was answered")
	}
}

// P3.5: what is packed is taken out as it was, one by one and all at once, whatever stands behind; packed again it is what it was.
func TestThereAndBack(t *testing.T) {
	draw := rand.New(rand.NewSource(6))
	for round := range 200 {
		var in parcels
		var b []byte
		for range draw.Intn(12) {
			size := draw.Intn(40)
			if round%20 == 0 {
				size = sizes()[draw.Intn(len(sizes()))]
			}
			in.kinds, in.bodies = append(in.kinds, draw.Intn(128)), append(in.bodies, some(draw, size))
			b = append(b, pack(t, in.kinds[len(in.kinds)-1], in.bodies[len(in.bodies)-1])...)
		}
		behind := some(draw, draw.Intn(20))
		rest := slices.Concat(b, behind)
		for i, kind := range in.kinds {
			got, body, next, e := parcel.Next(rest)
			if got != kind || !bytes.Equal(body, in.bodies[i]) || e != api.OK || !bytes.Equal(slices.Concat(pack(t, got, body), next), rest) {
				t.Fatalf("frame %d: %d, %d bytes, %v", i, got, len(body), e)
			}
			rest = next
		}
		if !bytes.Equal(rest, behind) {
			t.Fatalf("%X stands behind, not %X", rest, behind)
		}
		kinds, bodies, rest, e := parcel.All(append(b, 0x80))
		if !slices.Equal(kinds, in.kinds) || !slices.EqualFunc(bodies, in.bodies, bytes.Equal) || !bytes.Equal(rest, []byte{0x80}) || e != api.OK {
			t.Fatalf("All of %d frames: %d, %X, %v", len(in.kinds), kinds, rest, e)
		}
	}
}

// P3.6: a beginning of a frame is torn.
func TestBeginnings(t *testing.T) {
	for _, n := range sizes() {
		b := pack(t, n%128, make([]byte, n))
		for cut := range b {
			// Of long ones: the head, pieces of the body, the sum.
			if cut > 300 && cut < len(b)-10 && cut%4001 != 0 {
				continue
			}
			if kind, body, rest, e := parcel.Next(b[:cut]); kind != 0 || len(body)+len(rest) != 0 || e != api.ErrTrunc {
				t.Fatalf("Next of %d of %d bytes: %d, %X, %X, %v", cut, len(b), kind, body, rest, e)
			}
		}
	}
}

// turned is b with those bits turned that a pattern has, from a bit on; in each byte the lowest bit stands first. What goes past the end is left out.
func turned(b []byte, from int, pattern uint32) []byte {
	out := bytes.Clone(b)
	for i := range 32 {
		if at := from + i; pattern>>i&1 == 1 && at < 8*len(b) {
			out[at/8] ^= 1 << (at % 8)
		}
	}
	return out
}

// P3.6: bits that are turned in a body or a sum, within 32, make it wrong.
func TestTurnedBits(t *testing.T) {
	draw := rand.New(rand.NewSource(7))
	patterns := []uint32{1, 3, 0x81, 0xFF, 0x8001, 0xFFFF, 0x80000001, 0xFFFFFFFF, 0xEDB88321, 0xDB710641, 0x04C11DB7}
	for range 20 {
		patterns = append(patterns, draw.Uint32()|1)
	}
	for _, n := range []int{0, 1, 4, 33, 127, 128, 300} {
		b := pack(t, n%128, some(draw, n))
		ahead := 1 + few(n)
		for _, pattern := range patterns {
			for from := 8 * ahead; from < 8*len(b); from++ {
				other := turned(b, from, pattern)
				if kind, body, rest, e := parcel.Next(other); kind != 0 || len(body)+len(rest) != 0 || e != api.ErrSum {
					t.Fatalf("Next of %X, which was %X: %d, %X, %X, %v", other, b, kind, body, rest, e)
				}
				if _, _, _, e := parcel.All(other); e != api.ErrSum {
					t.Fatalf("All of %X, which was %X: %v", other, b, e)
				}
			}
		}
	}
}

// FuzzNext looks for bytes that are taken out otherwise than they are to be, or are not packed again as they were (P3.2, P3.3, P3.5).
func FuzzNext(f *testing.F) {
	f.Add([]byte{})
	f.Add([]byte{0x80, 0})
	f.Add(framed(1, []byte{7}))
	f.Add(slices.Concat(framed(127, make([]byte, 128)), framed(0, nil), []byte{1, 5, 0}))
	f.Fuzz(func(t *testing.T, b []byte) {
		looked(t, b)
		looked(t, summed(b))
		kinds, bodies, rest, e := parcel.All(b)
		if e != api.OK {
			return
		}
		var again []byte
		for i, kind := range kinds {
			again = append(again, pack(t, kind, bodies[i])...)
		}
		if !bytes.Equal(append(again, rest...), b) {
			t.Fatalf("%X: packed again it is %X", b, again)
		}
	})
}
