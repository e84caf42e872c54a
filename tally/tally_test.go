package tally_test

import (
	"bytes"
	"hash/crc32"
	"math/bits"
	"math/rand"
	"strconv"
	"testing"

	"muslin/tally"
)

const added = 0xEDB88320

// spelt goes on from a sum bit by bit, as the chapter's section 'Words' tells it; the package's own way is held against it.
func spelt(sum uint32, b []byte) uint32 {
	register := ^sum
	for _, x := range b {
		register ^= uint32(x)
		for range 8 {
			fell := register % 2
			register /= 2
			if fell == 1 {
				register ^= added
			}
		}
	}
	return ^register
}

// row is a sum's bytes, told by its hexadecimal digits.
func row(sum uint32) []byte {
	digits := strconv.FormatUint(1<<32+uint64(sum), 16)[1:]
	out := make([]byte, 4)
	for i := range out {
		n, err := strconv.ParseUint(digits[6-2*i:8-2*i], 16, 8)
		if err != nil {
			panic(err)
		}
		out[i] = byte(n)
	}
	return out
}

// joined puts bytes one behind the other, in new memory.
func joined(parts ...[]byte) []byte {
	return bytes.Join(parts, nil)
}

// some are bytes of that many, drawn from a source that tells the same ones each time.
func some(draw *rand.Rand, n int) []byte {
	b := make([]byte, n)
	draw.Read(b)
	return b
}

// samples are bytes of several lengths: none, all equal, all of them, drawn ones.
func samples() [][]byte {
	draw := rand.New(rand.NewSource(2))
	out := [][]byte{nil, {}, {0}, {0xFF}, {0, 0, 0, 0}, {0xFF, 0xFF, 0xFF, 0xFF}, bytes.Repeat([]byte{0}, 200), bytes.Repeat([]byte{0xFF}, 200)}
	every := make([]byte, 256)
	for i := range every {
		every[i] = byte(i)
	}
	out = append(out, every)
	for n := range 40 {
		out = append(out, some(draw, n))
	}
	return append(out, some(draw, 127), some(draw, 128), some(draw, 8192), some(draw, 65536+7))
}

func sums() []uint32 {
	out := []uint32{0, 1, 0xFF, 0x100, 0x01020304, 0x7FFFFFFF, 0x80000000, 0xFFFFFFFE, 0xFFFFFFFF, added, ^uint32(added)}
	for i := range 32 {
		out = append(out, 1<<i)
	}
	draw := rand.New(rand.NewSource(3))
	for range 20 {
		out = append(out, draw.Uint32())
	}
	return out
}

// P2.1: the chapter's examples.
func TestExamples(t *testing.T) {
	for text, want := range map[string]uint32{"": 0, "a": 0xE8B7BE43, "123456789": 0xCBF43926} {
		if got := tally.Of([]byte(text)); got != want {
			t.Errorf("Of(%q): %08X, not %08X", text, got, want)
		}
	}
	if got := tally.Of(nil); got != 0 {
		t.Errorf("Of(nil): %08X", got)
	}
	if got := tally.Row(0x01020304); !bytes.Equal(got, []byte{4, 3, 2, 1}) {
		t.Errorf("Row(01020304): %X", got)
	}
}

// P2.1: Of is as it is spelt, and as that of zip files.
func TestOf(t *testing.T) {
	for _, b := range samples() {
		got := tally.Of(b)
		if want := spelt(0, b); got != want {
			t.Errorf("Of of %d bytes: %08X, not %08X", len(b), got, want)
		}
		if want := crc32.ChecksumIEEE(b); got != want {
			t.Errorf("Of of %d bytes: %08X, in a zip file %08X", len(b), got, want)
		}
	}
	for first := range 256 {
		for second := range 256 {
			b := []byte{byte(first), byte(second)}
			if got, want := tally.Of(b), spelt(0, b); got != want {
				t.Fatalf("Of(%X): %08X, not %08X", b, got, want)
			}
		}
	}
}

// P2.1: On is as it is spelt, from each sum on; with no bytes it is where it was.
func TestOn(t *testing.T) {
	for _, sum := range sums() {
		for _, b := range samples() {
			if len(b) > 300 {
				continue
			}
			if got, want := tally.On(sum, b), spelt(sum, b); got != want {
				t.Errorf("On(%08X) with %d bytes: %08X, not %08X", sum, len(b), got, want)
			}
		}
		for x := range 256 {
			b := []byte{byte(x)}
			if got, want := tally.On(sum, b), spelt(sum, b); got != want {
				t.Fatalf("On(%08X, %X): %08X, not %08X", sum, b, got, want)
			}
		}
		if tally.On(sum, nil) != sum || tally.On(sum, []byte{}) != sum {
			t.Errorf("On(%08X) with no bytes: %08X", sum, tally.On(sum, nil))
		}
	}
}

// P2.1: Row, of each byte of a sum.
func TestRow(t *testing.T) {
	for _, sum := range sums() {
		if got, want := tally.Row(sum), row(sum); !bytes.Equal(got, want) {
			t.Errorf("Row(%08X): %X, not %X", sum, got, want)
		}
	}
}

// P2.1: what is handed in is only read, its spare room too.
func TestOnlyRead(t *testing.T) {
	for _, b := range samples() {
		room := joined(b, []byte{1, 2, 3, 4, 5, 6, 7, 8})
		was := bytes.Clone(room)
		first, on := tally.Of(room[:len(b)]), tally.On(7, room[:len(b)])
		if !bytes.Equal(room, was) {
			t.Errorf("what was handed in (%d bytes) was changed", len(b))
		}
		for i := range b {
			room[i] ^= 0xFF
		}
		tally.Of(room[:len(b)])
		if tally.Of(b) != first || tally.On(7, b) != on {
			t.Errorf("the sums of the same %d bytes are not the same", len(b))
		}
	}
}

// P2.1: what is answered is new memory each time.
func TestRowIsNew(t *testing.T) {
	one, two := tally.Row(0x01020304), tally.Row(0x01020304)
	for i := range one {
		one[i] = 0xEE
	}
	_ = append(one, 0xEE)
	if want := []byte{4, 3, 2, 1}; !bytes.Equal(two, want) || !bytes.Equal(tally.Row(0x01020304), want) {
		t.Errorf("%X, %X", two, tally.Row(0x01020304))
	}
}

// R2: who else sums up at the same time changes nothing.
func TestAtTheSameTime(t *testing.T) {
	b := some(rand.New(rand.NewSource(4)), 500)
	got := make(chan uint32)
	for range 16 {
		go func() { got <- tally.Of(b) }()
	}
	for range 16 {
		if sum := <-got; sum != spelt(0, b) {
			t.Errorf("%08X, not %08X", sum, spelt(0, b))
		}
	}
}

// P2.2: in which two pieces bytes come, and in which more, changes nothing.
func TestPieces(t *testing.T) {
	for _, b := range samples() {
		want, each := tally.Of(b), tally.Of(nil)
		if len(b) > 300 {
			if got := tally.On(tally.Of(b[:4711]), b[4711:]); got != want {
				t.Errorf("%d bytes, 4711 ahead: %08X, not %08X", len(b), got, want)
			}
			continue
		}
		for at := range len(b) + 1 {
			if got := tally.On(tally.Of(b[:at]), b[at:]); got != want {
				t.Errorf("%d bytes, %d ahead: %08X, not %08X", len(b), at, got, want)
			}
		}
		for i := range b {
			each = tally.On(each, b[i:i+1])
		}
		if each != want {
			t.Errorf("%d bytes, one by one: %08X, not %08X", len(b), each, want)
		}
	}
}

// turned is b with those bits turned that a pattern has, from a bit on; in each byte the lowest bit stands first. It is nil if the pattern goes past the end.
func turned(b []byte, from int, pattern uint32) []byte {
	if from+bits.Len32(pattern) > 8*len(b) {
		return nil
	}
	out := bytes.Clone(b)
	for i := range 32 {
		if pattern>>i&1 == 1 {
			out[(from+i)/8] ^= 1 << ((from + i) % 8)
		}
	}
	return out
}

// patterns are such of bits that are turned: each width alone, whole and with its ends only, and drawn ones.
func patterns() []uint32 {
	out := []uint32{added, 0xDB710641, 0x04C11DB7}
	for width := range 32 {
		out = append(out, 1<<width|1, 1<<width, uint32(1<<(width+1)-1))
	}
	draw := rand.New(rand.NewSource(5))
	for range 60 {
		out = append(out, draw.Uint32()>>draw.Intn(32)|1)
	}
	return out
}

// P2.3: bits that are turned within 32 make the sum another one.
func TestTurnedBits(t *testing.T) {
	for _, b := range samples() {
		if len(b) > 130 {
			continue
		}
		sum := tally.Of(b)
		for _, pattern := range patterns() {
			for from := range 8 * len(b) {
				if other := turned(b, from, pattern); other != nil && tally.Of(other) == sum {
					t.Fatalf("%X and %X have the same sum", b, other)
				}
			}
		}
	}
}

// fits tells whether bytes end with the row of the sum of those ahead.
func fits(b []byte) bool {
	at := len(b) - 4
	return bytes.Equal(tally.Row(tally.Of(b[:at])), b[at:])
}

// P2.3: bytes and their row don't fit any more, wherever the bits are turned.
func TestTurnedBitsWithRow(t *testing.T) {
	for _, b := range samples() {
		if len(b) > 130 {
			continue
		}
		whole := joined(b, tally.Row(tally.Of(b)))
		if !fits(whole) {
			t.Fatalf("%X: its row does not fit", b)
		}
		for _, pattern := range patterns() {
			for from := range 8 * len(whole) {
				if other := turned(whole, from, pattern); other != nil && fits(other) {
					t.Fatalf("%X: fits as %X, too", whole, other)
				}
			}
		}
	}
}

// rowFor is the row that makes the sum of b and itself the one that is wanted: the register is gone back, bit by bit.
func rowFor(b []byte, want uint32) []byte {
	register := ^want
	for range 32 {
		// Bit 31 is 1 just where a bit 1 fell out, as all else came in as 0 from the left.
		if register>>31 == 1 {
			register = (register^added)<<1 | 1
		} else {
			register <<= 1
		}
	}
	return row(register ^ ^spelt(0, b))
}

// P2.4: there is a row that makes the sum a given one.
func TestRowThatMakesTheSum(t *testing.T) {
	for _, b := range samples() {
		if len(b) > 300 {
			continue
		}
		for _, want := range sums() {
			four := rowFor(b, want)
			if got := tally.Of(joined(b, four)); got != want {
				t.Errorf("%d bytes, and %X: %08X, not %08X", len(b), four, got, want)
			}
		}
	}
}

// P2.4: there is just one. Bits that are turned in a row turn those bits of the sum that each of them alone does; as no bit's can be put together of the others', no two rows have the same sum.
func TestJustOneRow(t *testing.T) {
	draw := rand.New(rand.NewSource(6))
	for _, b := range samples() {
		if len(b) > 300 {
			continue
		}
		zero := tally.Of(joined(b, row(0)))
		var basis [32]uint32 // by the highest bit
		for i := range 32 {
			turns := tally.Of(joined(b, row(1<<i))) ^ zero
			for turns != 0 && basis[31-bits.LeadingZeros32(turns)] != 0 {
				turns ^= basis[31-bits.LeadingZeros32(turns)]
			}
			if turns == 0 {
				t.Fatalf("%d bytes: bit %d of a row is no bit of its own", len(b), i)
			}
			basis[31-bits.LeadingZeros32(turns)] = turns
		}
		for range 20 {
			one, two := draw.Uint32(), draw.Uint32()
			got := tally.Of(joined(b, row(one))) ^ tally.Of(joined(b, row(two)))
			if want := tally.Of(joined(b, row(one^two))) ^ zero; got != want {
				t.Errorf("%d bytes: %08X and %08X don't turn bits each alone", len(b), one, two)
			}
		}
	}
}
