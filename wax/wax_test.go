package wax_test

import (
	"bytes"
	"crypto/hmac"
	"crypto/sha256"
	"encoding/hex"
	"math/rand"
	"slices"
	"strings"
	"testing"

	"muslin/knot"
	"muslin/wax"
)

// longest is a length of keys, and of things, past which three blocks are full.
const longest = 200

// some are bytes of that many, drawn from a source that tells the same ones each time.
func some(draw *rand.Rand, n int) (b []byte) {
	for range n {
		b = append(b, byte(draw.Intn(256)))
	}
	return b
}

// written are bytes out of the chapter's way to write them: hexadecimal, in groups.
func written(text string) [knot.Size]byte {
	b, err := hex.DecodeString(strings.ReplaceAll(text, " ", ""))
	if err != nil {
		panic(err)
	}
	return [knot.Size]byte(b)
}

// right is the library's MAC of things.
func right(key []byte, things ...[]byte) [knot.Size]byte {
	h := hmac.New(sha256.New, key)
	for _, thing := range things {
		h.Write(thing)
	}
	return [knot.Size]byte(h.Sum(nil))
}

// holds holds Of to the library.
func holds(t *testing.T, key []byte, things ...[]byte) {
	t.Helper()
	if got, want := wax.Of(key, things...), right(key, things...); got != want {
		t.Errorf("a key of %d bytes, %d things: %x, not %x", len(key), len(things), got, want)
	}
}

// P5.1: the chapter's example.
func TestExample(t *testing.T) {
	want := written("f7bc83f4 30538424 b13298e6 aa6fb143 ef4d59a1 49461759 97479dbc 2d1a3cd8")
	got := wax.Of([]byte("key"), []byte("The quick brown fox "), []byte("jumps over the lazy dog"))
	if got != want {
		t.Errorf("%x, not %x", got, want)
	}
}

// P5.1: MACs that are known of HMAC-SHA256 (RFC 4231), with short keys, and with ones of more than 64 bytes.
func TestKnown(t *testing.T) {
	rising := make([]byte, 25)
	for i := range rising {
		rising[i] = byte(i + 1)
	}
	for _, c := range []struct {
		key         []byte
		thing, want string
	}{
		{bytes.Repeat([]byte{0x0b}, 20), "Hi There", "b0344c61 d8db3853 5ca8afce af0bf12b 881dc200 c9833da7 26e9376c 2e32cff7"},
		{[]byte("Jefe"), "what do ya want for nothing?", "5bdcc146 bf60754e 6a042426 089575c7 5a003f08 9d273983 9dec58b9 64ec3843"},
		{bytes.Repeat([]byte{0xaa}, 20), strings.Repeat("\xdd", 50), "773ea91e 36800e46 854db8eb d09181a7 2959098b 3ef8c122 d9635514 ced565fe"},
		{rising, strings.Repeat("\xcd", 50), "82558a38 9a443c0e a4cc8198 99f2083a 85f0faa3 e578f807 7a2e3ff4 6729665b"},
		{bytes.Repeat([]byte{0xaa}, 131), "Test Using Larger Than Block-Size Key - Hash Key First", "60e43159 1ee0b67f 0d8a26aa cbf5b77f 8e0bc621 3728c514 0546040f 0ee37f54"},
		{bytes.Repeat([]byte{0xaa}, 131), "This is a test using a larger than block-size key and a larger than block-size data. The key needs to be hashed before being used by the HMAC algorithm.", "9b09ffa7 1b942fcb 27635fbc d5b0e944 bfdc6364 4f071393 8a7f5153 5c3a35e2"},
	} {
		if got := wax.Of(c.key, []byte(c.thing)); got != written(c.want) {
			t.Errorf("%q: %x, not %s", c.thing, got, c.want)
		}
	}
}

// P5.1: keys of each length, 64 and 65 bytes among them, of zeros, of one byte, and drawn.
func TestKeys(t *testing.T) {
	draw := rand.New(rand.NewSource(51))
	thing := some(draw, 100)
	for n := range longest {
		for _, key := range [][]byte{make([]byte, n), bytes.Repeat([]byte{0x36}, n), bytes.Repeat([]byte{0x5C}, n), bytes.Repeat([]byte{0xFF}, n), some(draw, n)} {
			holds(t, key, thing)
		}
	}
}

// P5.1: things of each length.
func TestLengths(t *testing.T) {
	draw := rand.New(rand.NewSource(52))
	for n := range longest {
		holds(t, some(draw, draw.Intn(100)), some(draw, n))
	}
}

// P5.1: no key, no things, and things without bytes, nil or not.
func TestNothing(t *testing.T) {
	want := written("b613679a 0814d9ec 772f95d7 78c35fc5 ff1697c4 93715653 c6c71214 4292c5ad")
	for _, key := range [][]byte{nil, {}} {
		for _, things := range [][][]byte{nil, {}, {nil}, {{}}, {nil, {}, nil}} {
			if got := wax.Of(key, things...); got != want {
				t.Errorf("Of(%#v, %#v): %x", key, things, got)
			}
		}
		if got := wax.Of(key); got != want {
			t.Errorf("Of(%#v): %x", key, got)
		}
	}
	holds(t, []byte("key"))
	holds(t, []byte("key"), nil, []byte("a"), nil, []byte{}, []byte("b"))
}

// P5.1: each bit of a key, and of a thing, matters.
func TestTurnedBits(t *testing.T) {
	draw := rand.New(rand.NewSource(53))
	for _, size := range []int{1, 32, 64, 65, 100} {
		key, thing := some(draw, size), some(draw, 70)
		want := wax.Of(key, thing)
		for _, b := range [][]byte{key, thing} {
			for i := range 8 * len(b) {
				b[i/8] ^= 1 << (i % 8)
				if got := wax.Of(key, thing); got == want || got != right(key, thing) {
					t.Errorf("a key of %d bytes, bit %d: %x", size, i, got)
				}
				b[i/8] ^= 1 << (i % 8)
			}
		}
	}
}

// P5.1: things stand in the order in which they are handed in.
func TestOrder(t *testing.T) {
	key, a, b := []byte("key"), []byte("a"), []byte("b")
	if wax.Of(key, a, b) != wax.Of(key, []byte("ab")) || wax.Of(key, b, a) != wax.Of(key, []byte("ba")) {
		t.Error("things aren't one behind the other")
	}
	if wax.Of(key, a, b) == wax.Of(key, b, a) {
		t.Error("the order of things doesn't matter")
	}
}

// P5.1: whether both have the same bytes, of each length, and with one bit that is another, wherever it is.
func TestSame(t *testing.T) {
	draw := rand.New(rand.NewSource(54))
	for n := range 100 {
		a := some(draw, n)
		b := bytes.Clone(a)
		if !wax.Same(a, b) || !wax.Same(a, a) {
			t.Errorf("%d bytes: not the same", n)
		}
		for i := range 8 * n {
			b[i/8] ^= 1 << (i % 8)
			if wax.Same(a, b) || wax.Same(b, a) {
				t.Errorf("%d bytes, bit %d is another: the same", n, i)
			}
			b[i/8] ^= 1 << (i % 8)
		}
	}
}

// P5.1: two bits, or all, that are others, don't take each other away.
func TestSameManyBits(t *testing.T) {
	for _, c := range [][2][]byte{
		{{1, 1}, {0, 0}},
		{{1, 2}, {2, 1}},
		{{1, 0xFF}, {0, 0}},
		{{0x80, 0x80}, {0, 0}},
		{{0, 0, 0, 0}, {0xFF, 0xFF, 0xFF, 0xFF}},
	} {
		if wax.Same(c[0], c[1]) || wax.Same(c[1], c[0]) {
			t.Errorf("% x and % x: the same", c[0], c[1])
		}
	}
}

// P5.1: bytes that are the first ones of others, be it that only zeros follow, are not the same.
func TestSameLengths(t *testing.T) {
	all := some(rand.New(rand.NewSource(55)), 40)
	for _, b := range [][]byte{all, make([]byte, 40)} {
		for i := range len(b) + 1 {
			for j := range len(b) + 1 {
				if wax.Same(b[:i], b[:j]) != (i == j) {
					t.Errorf("%d bytes and %d", i, j)
				}
			}
		}
	}
	if !wax.Same(nil, nil) || !wax.Same(nil, []byte{}) || !wax.Same([]byte{}, nil) || !wax.Same([]byte{}, []byte{}) {
		t.Error("no bytes are not the same as none")
	}
	if wax.Same(nil, []byte{0}) || wax.Same([]byte{0}, nil) {
		t.Error("a byte is the same as none")
	}
}

// P5.1: what is handed in is only read, its spare room neither, the list of things neither.
func TestMemory(t *testing.T) {
	draw := rand.New(rand.NewSource(56))
	for _, n := range []int{0, 1, 32, 63, 64, 65, 130} {
		keyRoom, room := some(draw, n+100), some(draw, n+100)
		keyWas, was := bytes.Clone(keyRoom), bytes.Clone(room)
		things := append(make([][]byte, 0, 4), room[:n], room[n:n])
		spare := things[:4]

		first := wax.Of(keyRoom[:n], things...)
		wax.Same(keyRoom[:n], room[:n])
		if !bytes.Equal(keyRoom, keyWas) || !bytes.Equal(room, was) {
			t.Errorf("%d bytes: what was handed in was changed", n)
		}
		if len(things[0]) != n || len(things[1]) != 0 || spare[2] != nil || spare[3] != nil {
			t.Errorf("%d bytes: the list of things was changed", n)
		}
		if wax.Of(keyRoom[:n], things...) != first {
			t.Errorf("%d bytes: the second time it is another", n)
		}
	}
}

// P5.1: a key, and things, that share their memory.
func TestShared(t *testing.T) {
	b := some(rand.New(rand.NewSource(57)), 150)
	holds(t, b, b)
	holds(t, b[:64], b[:64], b[32:96], b)
	holds(t, b[10:30], b[:20], b[10:30], b[20:])
}

// P5.2: how bytes are parted into things changes nothing: once, wherever that is; into things of one size; into drawn ones, many of them empty.
func TestParts(t *testing.T) {
	draw := rand.New(rand.NewSource(58))
	for _, size := range []int{0, 20, 64, 70} {
		key, b := some(draw, size), some(draw, 150)
		want := wax.Of(key, b)
		if want != right(key, b) {
			t.Errorf("a key of %d bytes: %x", size, want)
		}
		for at := range len(b) + 1 {
			if wax.Of(key, b[:at], b[at:]) != want {
				t.Errorf("a key of %d bytes, parted at %d", size, at)
			}
		}
		for each := 1; each <= len(b); each++ {
			if wax.Of(key, slices.Collect(slices.Chunk(b, each))...) != want {
				t.Errorf("a key of %d bytes, parts of %d", size, each)
			}
		}
		for range 50 {
			if things := parted(draw, b); wax.Of(key, things...) != want {
				t.Errorf("a key of %d bytes, %d drawn parts", size, len(things))
			}
		}
	}
}

// parted are bytes in things of drawn lengths.
func parted(draw *rand.Rand, b []byte) [][]byte {
	var things [][]byte
	for len(b) > 0 {
		n := draw.Intn(min(len(b), 40) + 1)
		things = append(things, b[:n])
		b = b[n:]
	}
	return append(things, nil)
}

// P5.2: a key that is made longer by bytes 0, 64 at most, makes the same MACs; one of 65 makes others.
func TestKeyWithZeros(t *testing.T) {
	draw := rand.New(rand.NewSource(59))
	thing := some(draw, 40)
	for n := range 65 {
		key := some(draw, n)
		want := wax.Of(key, thing)
		longer := bytes.Clone(key)
		for len(longer) < 64 {
			longer = append(longer, 0)
			if wax.Of(longer, thing) != want {
				t.Errorf("a key of %d bytes, made %d", n, len(longer))
			}
		}
		if wax.Of(append(longer, 0), thing) == want {
			t.Errorf("a key of %d bytes, made 65: the same MAC", n)
		}
	}
}

// P5.2: the digest of a key that has more than 64 bytes makes the same MACs; that of one of 64 bytes, or fewer, others.
func TestKeyDigested(t *testing.T) {
	draw := rand.New(rand.NewSource(60))
	thing := some(draw, 40)
	for n := range longest {
		key := some(draw, n)
		digest := knot.Of(key)
		if same := wax.Of(key, thing) == wax.Of(digest[:], thing); same != (n > 64) {
			t.Errorf("a key of %d bytes, and its digest: the same is %t", n, same)
		}
	}
}

// FuzzOf looks for keys and things of which the MAC is wrong, or hangs on where they are parted.
func FuzzOf(f *testing.F) {
	f.Add([]byte("key"), []byte("The quick brown fox jumps over the lazy dog"), 20)
	f.Add(make([]byte, 65), make([]byte, 130), 64)
	f.Fuzz(func(t *testing.T, key, b []byte, at int) {
		at = min(max(at, 0), len(b))
		got, want := wax.Of(key, b[:at], b[at:]), right(key, b)
		if got != want {
			t.Errorf("%x, not %x", got, want)
		}
		if wax.Same(key, b) != bytes.Equal(key, b) {
			t.Error("Same")
		}
	})
}
