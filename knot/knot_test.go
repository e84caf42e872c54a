package knot_test

import (
	"bytes"
	"crypto/sha256"
	"encoding/hex"
	"math/rand"
	"slices"
	"strings"
	"testing"

	"muslin/knot"
)

// longest is a length past which three blocks are full, however the end of a message falls.
const longest = 260

// some are bytes of that many, drawn from a source that tells the same ones each time.
func some(draw *rand.Rand, n int) []byte {
	b := make([]byte, n)
	draw.Read(b)
	return b
}

// told is a digest as the chapter writes it.
func told(digest [knot.Size]byte) string {
	var words []string
	for word := range slices.Chunk(digest[:], 4) {
		words = append(words, hex.EncodeToString(word))
	}
	return strings.Join(words, " ")
}

// same holds a knot to the digest, and the length, of bytes.
func same(t *testing.T, what string, k *knot.Knot, b []byte) {
	t.Helper()
	if got, want := k.Tie(), sha256.Sum256(b); got != want {
		t.Errorf("%s: Tie: %s, not %s", what, told(got), told(want))
	}
	if k.Len() != len(b) {
		t.Errorf("%s: Len: %d, not %d", what, k.Len(), len(b))
	}
}

// P4.1: the chapter's examples, and others that are known of SHA-256.
func TestExamples(t *testing.T) {
	if knot.Size != 32 {
		t.Errorf("Size: %d", knot.Size)
	}
	for _, c := range []struct{ text, want string }{
		{"", "e3b0c442 98fc1c14 9afbf4c8 996fb924 27ae41e4 649b934c a495991b 7852b855"},
		{"abc", "ba7816bf 8f01cfea 414140de 5dae2223 b00361a3 96177a9c b410ff61 f20015ad"},
		{"abcdbcdecdefdefgefghfghighijhijkijkljklmklmnlmnomnopnopq", "248d6a61 d20638b8 e5c02693 0c3e6039 a33ce459 64ff2167 f6ecedd4 19db06c1"},
		{"abcdefghbcdefghicdefghijdefghijkefghijklfghijklmghijklmnhijklmnoijklmnopjklmnopqklmnopqrlmnopqrsmnopqrstnopqrstu", "cf5b16a7 78af8380 036ce59e 7b049237 0b249b11 e8f07a51 afac4503 7afee9d1"},
		{strings.Repeat("a", 1000000), "cdc76e5c 9914fb92 81a1c7e2 84d73e67 f1809a48 a497200e 046d39cc c7112cd0"},
	} {
		name := c.text[:min(len(c.text), 9)]
		if got := told(knot.Of([]byte(c.text))); got != c.want {
			t.Errorf("Of(%q..): %s, not %s", name, got, c.want)
		}
		k := knot.New()
		k.Add([]byte(c.text))
		if got := told(k.Tie()); got != c.want {
			t.Errorf("%q.. added: %s, not %s", name, got, c.want)
		}
		if k.Len() != len(c.text) {
			t.Errorf("%q.. added: Len: %d", name, k.Len())
		}
	}
}

// P4.1: no bytes, nil or not, handed in or not, are the same.
func TestNoBytes(t *testing.T) {
	none := sha256.Sum256(nil)
	if knot.Of(nil) != none || knot.Of([]byte{}) != none {
		t.Error("Of")
	}
	k := knot.New()
	same(t, "new", k, nil)
	k.Add(nil)
	k.Add([]byte{})
	same(t, "none added", k, nil)
	k.Add([]byte("abc"))
	k.Add(nil)
	k.Add([]byte{})
	same(t, "none added behind", k, []byte("abc"))
}

// P4.1: each length, so that the byte behind a message, the zeros and the bits fall at each place of a block.
func TestLengths(t *testing.T) {
	draw := rand.New(rand.NewSource(41))
	for n := range longest {
		for _, b := range [][]byte{make([]byte, n), bytes.Repeat([]byte{0xFF}, n), bytes.Repeat([]byte{0x80}, n), some(draw, n)} {
			if got, want := knot.Of(b), sha256.Sum256(b); got != want {
				t.Errorf("%d bytes: %s, not %s", n, told(got), told(want))
			}
			k := knot.New()
			k.Add(b)
			same(t, "at once", k, b)
		}
	}
}

// P4.1: drawn bytes of drawn lengths.
func TestDrawn(t *testing.T) {
	draw := rand.New(rand.NewSource(42))
	for range 300 {
		b := some(draw, draw.Intn(5000))
		if got, want := knot.Of(b), sha256.Sum256(b); got != want {
			t.Errorf("%d bytes: %s, not %s", len(b), told(got), told(want))
		}
	}
}

// P4.1: each bit of a message matters.
func TestTurnedBits(t *testing.T) {
	b := some(rand.New(rand.NewSource(43)), 130)
	want := knot.Of(b)
	for i := range 8 * len(b) {
		b[i/8] ^= 1 << (i % 8)
		got := knot.Of(b)
		if got == want || got != sha256.Sum256(b) {
			t.Errorf("bit %d: %s", i, told(got))
		}
		b[i/8] ^= 1 << (i % 8)
	}
}

// P4.1: how many bits there are takes more than four of the eight bytes.
func TestManyBits(t *testing.T) {
	if testing.Short() {
		t.Skip("long")
	}
	piece := some(rand.New(rand.NewSource(44)), 1<<20+1)
	k, want, n := knot.New(), sha256.New(), 0
	for 8*n < 1<<32 {
		k.Add(piece)
		want.Write(piece)
		n += len(piece)
	}
	if got := k.Tie(); !bytes.Equal(got[:], want.Sum(nil)) {
		t.Errorf("%d bytes: %s", n, told(got))
	}
	if k.Len() != n {
		t.Errorf("Len: %d, not %d", k.Len(), n)
	}
}

// P4.1: of a knot that is none there is nothing, whatever is added.
func TestNone(t *testing.T) {
	var zero knot.Knot
	for what, k := range map[string]*knot.Knot{"nil": nil, "zero": &zero, "new zero": new(knot.Knot)} {
		for _, b := range [][]byte{nil, {1}, make([]byte, 64), make([]byte, 1000)} {
			k.Add(b)
			if got := k.Tie(); got != [knot.Size]byte{} {
				t.Errorf("%s: Tie behind %d bytes: %s", what, len(b), told(got))
			}
			if k.Len() != 0 {
				t.Errorf("%s: Len behind %d bytes: %d", what, len(b), k.Len())
			}
		}
	}
	if zero != (knot.Knot{}) {
		t.Error("a zero knot was changed")
	}
}

// P4.1: what is handed in is only read, its spare room neither; and it is not kept: what becomes of it changes nothing.
func TestMemory(t *testing.T) {
	draw := rand.New(rand.NewSource(45))
	for _, n := range []int{0, 1, 55, 56, 63, 64, 65, 127, 128, 129, 200} {
		room := some(draw, n+150)
		was := bytes.Clone(room)
		b := room[:n]

		digest := knot.Of(b)
		k := knot.New()
		k.Add(b)
		k.Tie()
		if !bytes.Equal(room, was) {
			t.Errorf("%d bytes: what was handed in was changed", n)
		}

		for i := range room {
			room[i] ^= 0xFF
		}
		same(t, "bytes changed behind Add", k, was[:n])
		if digest != sha256.Sum256(was[:n]) {
			t.Errorf("%d bytes: Of", n)
		}
	}
}

// R2: knots know nothing of each other.
func TestTwoKnots(t *testing.T) {
	draw := rand.New(rand.NewSource(46))
	one, other := knot.New(), knot.New()
	var ones, others []byte
	for range 50 {
		b := some(draw, draw.Intn(100))
		one.Add(b)
		ones = append(ones, b...)
		b = some(draw, draw.Intn(100))
		other.Add(b)
		others = append(others, b...)
		knot.Of(b)
		same(t, "one", one, ones)
		same(t, "other", other, others)
	}
}

// P4.2: bytes cut once, wherever that is; nothing is kept of where it was.
func TestTwoPieces(t *testing.T) {
	draw := rand.New(rand.NewSource(47))
	for _, n := range []int{1, 55, 56, 57, 63, 64, 65, 119, 120, 121, 127, 128, 129, 200} {
		b := some(draw, n)
		whole := knot.New()
		whole.Add(b)
		for at := range n + 1 {
			k := knot.New()
			k.Add(b[:at])
			k.Add(b[at:])
			same(t, "two pieces", k, b)
			if *k != *whole {
				t.Errorf("%d bytes, cut at %d: the knot tells where", n, at)
			}
		}
	}
}

// P4.2: bytes in pieces of one size, and a look behind each piece, which changes nothing.
func TestPieces(t *testing.T) {
	b := some(rand.New(rand.NewSource(48)), longest)
	for size := 1; size <= longest; size++ {
		seen, unseen := knot.New(), knot.New()
		n := 0
		for piece := range slices.Chunk(b, size) {
			seen.Add(piece)
			unseen.Add(piece)
			n += len(piece)
			same(t, "piece", seen, b[:n])
		}
		same(t, "no look", unseen, b)
	}
}

// P4.2: drawn pieces, many of them empty, with Tie and Len between, once, often or not at all.
func TestDrawnPieces(t *testing.T) {
	draw := rand.New(rand.NewSource(49))
	for range 200 {
		k := knot.New()
		var all []byte
		for range draw.Intn(20) {
			b := some(draw, draw.Intn(1+draw.Intn(150)))
			k.Add(b)
			all = append(all, b...)
			for range draw.Intn(3) {
				same(t, "between", k, all)
			}
		}
		same(t, "end", k, all)
		if k.Tie() != knot.Of(all) {
			t.Error("pieces, and all at once, differ")
		}
	}
}

// FuzzPieces looks for bytes, and pieces of them, that are digested wrongly: each byte of cuts is how long a piece is.
func FuzzPieces(f *testing.F) {
	f.Add([]byte("abc"), []byte{1, 0, 2})
	f.Add(make([]byte, 130), []byte{64, 0, 1, 63})
	f.Fuzz(func(t *testing.T, b, cuts []byte) {
		k, n := knot.New(), 0
		for _, cut := range cuts {
			to := min(n+int(cut), len(b))
			k.Add(b[n:to])
			n = to
			same(t, "piece", k, b[:n])
		}
		k.Add(b[n:])
		same(t, "all", k, b)
	})
}
