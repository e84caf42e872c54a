package knot

import "math/bits"

// block is a message's next bytes.
type block [blockSize]byte

// words are the eight, a to h, to which blocks are tied in.
type words [Size / wordSize]uint32

// row has a word for each time that words are tied in: those of a block, or K.
type row [times]uint32

// tieIn ties a block in; each is K.
func (w *words) tieIn(next *block, each *row) {
	a, b, c, d, e, f, g, h := w[0], w[1], w[2], w[3], w[4], w[5], w[6], w[7]
	for i, word := range next.spread() {
		t := h + (turned(e, 6) ^ turned(e, 11) ^ turned(e, 25)) + chosen(e, f, g) + each[i] + word
		u := (turned(a, 2) ^ turned(a, 13) ^ turned(a, 22)) + most(a, b, c)
		h, g, f, e, d, c, b, a = g, f, e, d+t, c, b, a, t+u
	}
	for i, word := range [...]uint32{a, b, c, d, e, f, g, h} {
		w[i] += word
	}
}

// bytes are those of the words, the highest of each first.
func (w *words) bytes() [Size]byte {
	var out [Size]byte
	for i := range out {
		out[i] = byte(w[i/wordSize] >> (8 * (wordSize - 1 - i%wordSize)))
	}
	return out
}

// spread makes a block's 64 words.
func (b *block) spread() row {
	var out row
	for i, x := range b {
		out[i/wordSize] = out[i/wordSize]<<8 | uint32(x)
	}
	for i := blockSize / wordSize; i < len(out); i++ {
		near, far := out[i-2], out[i-15]
		s0 := turned(far, 7) ^ turned(far, 18) ^ far>>3
		s1 := turned(near, 17) ^ turned(near, 19) ^ near>>10
		out[i] = out[i-16] + out[i-7] + s0 + s1
	}
	return out
}

// turned is a word turned to the right.
func turned(word uint32, by int) uint32 {
	return bits.RotateLeft32(word, -by)
}

// chosen has bits of one where by has bits 1, and of other where it has 0.
func chosen(by, one, other uint32) uint32 {
	return by&one | ^by&other
}

// most has the bits that two at least of the three have.
func most(a, b, c uint32) uint32 {
	return a&b | a&c | b&c
}
