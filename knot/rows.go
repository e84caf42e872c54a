package knot

import "math/bits"

const (
	behind = 32          // bits behind the point
	above  = 8 << behind // is above the roots of all primes that are asked for
)

// rows makes H, the words to which the first block is tied in, and K.
func rows() (words, row) {
	var h words
	var k row
	squareRoot, cubeRoot := root(square), root(cube)
	for i, prime := range primes() {
		if i < len(h) {
			h[i] = squareRoot(prime)
		}
		k[i] = cubeRoot(prime)
	}
	return h, k
}

// root makes the function that tells the first bits behind the point of a prime's root; power tells what is ahead of the point of a number's power.
func root(power func(x uint64) uint64) func(prime uint64) uint32 {
	return func(prime uint64) uint32 {
		// A prime's root has no end behind the point: so no number is the root itself, and its bits are those of the last number below it.
		low, high := uint64(0), uint64(above)
		for high-low > 1 {
			middle := (low + high) / 2
			if power(middle) < prime {
				low = middle
			} else {
				high = middle
			}
		}
		return uint32(low)
	}
}

// square is what is ahead of the point of a number's square.
func square(x uint64) uint64 {
	high, _ := bits.Mul64(x, x)
	return high
}

// cube is what is ahead of the point of a number's cube.
func cube(x uint64) uint64 {
	high, low := bits.Mul64(x, x)
	carry, _ := bits.Mul64(low, x)
	return (high*x + carry) >> behind
}

// primes are the first ones, one for each word of K.
func primes() [times]uint64 {
	var found [times]uint64
	many := 0
candidates:
	for x := uint64(2); many < len(found); x++ {
		for _, prime := range found[:many] {
			if prime*prime > x {
				break
			}
			if x%prime == 0 {
				continue candidates
			}
		}
		found[many] = x
		many++
	}
	return found
}
