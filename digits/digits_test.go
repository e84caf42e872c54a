package digits_test

import (
	"bytes"
	"fmt"
	"math"
	"strconv"
	"strings"
	"testing"

	"muslin/api"
	"muslin/digits"
)

// spelt writes a number bit by bit, as the chapter's section 'Words' tells it; the package's own way is held against it.
func spelt(n int) []byte {
	k := 1
	for k < 8 && n >= 1<<(7*k) {
		k++
	}
	row := strings.Repeat("1", k-1) + "0" + fmt.Sprintf("%0*b", 7*k, n)
	out := make([]byte, k)
	for i := range out {
		b, err := strconv.ParseUint(row[8*i:8*i+8], 2, 8)
		if err != nil {
			panic(err)
		}
		out[i] = byte(b)
	}
	return out
}

// read is the way back: the number with which b begins, up to most, and how many bytes it has.
func read(b []byte, most int) (n, size int, e api.Errno) {
	if len(b) == 0 {
		return 0, 0, api.ErrTrunc
	}
	ones := strings.IndexByte(fmt.Sprintf("%08b", b[0]), '0')
	if ones < 0 {
		return 0, 0, api.ErrSyntax
	}
	size = ones + 1
	if len(b) < size {
		return 0, 0, api.ErrTrunc
	}
	row := ""
	for _, x := range b[:size] {
		row += fmt.Sprintf("%08b", x)
	}
	v, err := strconv.ParseUint(row[size:], 2, 64)
	if err != nil {
		panic(err)
	}
	if v > uint64(most) || !bytes.Equal(spelt(int(v)), b[:size]) {
		return 0, 0, api.ErrSyntax
	}
	return int(v), size, api.OK
}

// edges are numbers from 0 on around which something turns, rising.
func edges() []int {
	out := []int{0, 1, 2, 63, 64, 65, 126}
	for k := 1; k <= 7; k++ {
		e := 1 << (7 * k)
		out = append(out, e-1, e, e+1, e+e/2)
	}
	return append(out, 1<<52, api.MaxNumber-1, api.MaxNumber)
}

func written(t *testing.T, b []byte, e api.Errno) []byte {
	t.Helper()
	if e != api.OK {
		t.Fatalf("not written: %v", e)
	}
	return b
}

func u(t *testing.T, n int) []byte {
	t.Helper()
	b, e := digits.U(n)
	return written(t, b, e)
}

func s(t *testing.T, n int) []byte {
	t.Helper()
	b, e := digits.S(n)
	return written(t, b, e)
}

func text(t *testing.T, x string) []byte {
	t.Helper()
	b, e := digits.Text(x)
	return written(t, b, e)
}

// P1.1: the chapter's examples.
func TestWrittenExamples(t *testing.T) {
	for _, c := range []struct {
		name string
		got  []byte
		want []byte
	}{
		{"U(0)", u(t, 0), []byte{0x00}},
		{"U(127)", u(t, 127), []byte{0x7F}},
		{"U(128)", u(t, 128), []byte{0x80, 0x80}},
		{"U(16384)", u(t, 16384), []byte{0xC0, 0x40, 0x00}},
		{"S(0)", s(t, 0), []byte{0x00}},
		{"S(-1)", s(t, -1), []byte{0x01}},
		{"S(1)", s(t, 1), []byte{0x02}},
		{"S(-64)", s(t, -64), []byte{0x7F}},
		{"S(64)", s(t, 64), []byte{0x80, 0x80}},
		{"Text(ab)", text(t, "ab"), []byte{0x02, 0x61, 0x62}},
		{"U(MaxNumber)", u(t, api.MaxNumber), []byte{0xFE, 0x1F, 0xFF, 0xFF, 0xFF, 0xFF, 0xFF, 0xFF}},
		{"S(MaxNumber)", s(t, api.MaxNumber), []byte{0xFE, 0x3F, 0xFF, 0xFF, 0xFF, 0xFF, 0xFF, 0xFE}},
		{"S(-MaxNumber)", s(t, -api.MaxNumber), []byte{0xFE, 0x3F, 0xFF, 0xFF, 0xFF, 0xFF, 0xFF, 0xFD}},
		{"Text of nothing", text(t, ""), []byte{0x00}},
		{"Text that is no UTF-8", text(t, "\xff\x00"), []byte{0x02, 0xFF, 0x00}},
	} {
		if !bytes.Equal(c.got, c.want) {
			t.Errorf("%s: %X, not %X", c.name, c.got, c.want)
		}
	}
}

// P1.1: in as few bytes as can be, at each edge.
func TestWrittenAsSpelt(t *testing.T) {
	for _, n := range edges() {
		if got, want := u(t, n), spelt(n); !bytes.Equal(got, want) {
			t.Errorf("U(%d): %X, not %X", n, got, want)
		}
		if got, want := s(t, n), spelt(2*n); !bytes.Equal(got, want) {
			t.Errorf("S(%d): %X, not %X", n, got, want)
		}
		if n == 0 {
			continue
		}
		if got, want := s(t, -n), spelt(2*n-1); !bytes.Equal(got, want) {
			t.Errorf("S(%d): %X, not %X", -n, got, want)
		}
	}
}

// P1.1: what is out of range, and nothing beside the error.
func TestOutOfRange(t *testing.T) {
	for _, n := range []int{-1, -2, math.MinInt, -api.MaxNumber, api.MaxNumber + 1, 1 << 56, math.MaxInt} {
		if b, e := digits.U(n); e != api.ErrRange || len(b) != 0 {
			t.Errorf("U(%d): %X, %v", n, b, e)
		}
	}
	for _, n := range []int{-api.MaxNumber - 1, math.MinInt, math.MinInt + 1, api.MaxNumber + 1, 1 << 55, math.MaxInt} {
		if b, e := digits.S(n); e != api.ErrRange || len(b) != 0 {
			t.Errorf("S(%d): %X, %v", n, b, e)
		}
	}
}

// P1.1: how long a text may be.
func TestLongTexts(t *testing.T) {
	for _, n := range []int{1, 64, 127, 128, 16383, 16384, 65534, 65535} {
		x := strings.Repeat("x", n)
		if got, want := text(t, x), append(spelt(n), x...); !bytes.Equal(got, want) {
			t.Errorf("a text of %d bytes is written in %d", n, len(got))
		}
	}
	for _, n := range []int{65536, 65537, 1 << 20} {
		if b, e := digits.Text(strings.Repeat("x", n)); e != api.ErrLimit || len(b) != 0 {
			t.Errorf("a text of %d bytes: %d bytes, %v", n, len(b), e)
		}
	}
}

// P1.4: what is written is new memory each time.
func TestWrittenIsNew(t *testing.T) {
	for name, write := range map[string]func() []byte{
		"U":    func() []byte { return u(t, 300) },
		"S":    func() []byte { return s(t, -300) },
		"Text": func() []byte { return text(t, "abc") },
	} {
		first := write()
		want := bytes.Clone(first)
		for i := range first {
			first[i] ^= 0xFF
		}
		_ = append(first, 1, 2, 3)
		if got := write(); !bytes.Equal(got, want) {
			t.Errorf("%s: %X, then %X", name, want, got)
		}
	}
}

// P1.6: the lesser one's bytes stand ahead, and none is the beginning of another one's.
func TestOrderAndBeginnings(t *testing.T) {
	var rows [][]byte
	for n := range 70000 {
		rows = append(rows, u(t, n))
	}
	for _, n := range edges() {
		if n >= 70000 {
			rows = append(rows, u(t, n))
		}
	}
	for i := 1; i < len(rows); i++ {
		// Rows that rise byte by byte have each one's continuations right behind it: to look at neighbours is enough.
		if bytes.Compare(rows[i-1], rows[i]) >= 0 || bytes.HasPrefix(rows[i], rows[i-1]) {
			t.Fatalf("%X does not stand ahead of %X", rows[i-1], rows[i])
		}
	}
}

// P1.6: no text's bytes, no bytes of any number are the beginning of another one's.
func TestBeginnings(t *testing.T) {
	var texts, numbers [][]byte
	for _, x := range []string{"", "\x00", "a", "ab", "abc", "b", "\x01a", strings.Repeat("a", 127), strings.Repeat("a", 128), strings.Repeat("a", 65535)} {
		texts = append(texts, text(t, x))
	}
	for _, n := range edges() {
		numbers = append(numbers, s(t, n))
		if n > 0 {
			numbers = append(numbers, s(t, -n))
		}
	}
	for _, rows := range [][][]byte{texts, numbers} {
		for i, a := range rows {
			for j, b := range rows {
				if i != j && bytes.HasPrefix(b, a) {
					t.Errorf("%.8X is the beginning of %.8X", a, b)
				}
			}
		}
	}
}
