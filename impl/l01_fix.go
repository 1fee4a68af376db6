package impl

import "math"

const MaxTime = 1000000000000000
const MaxRate = 1000000000000
const MaxSegment = 1500
const MaxWindow = 1000000000

// second is how many nanoseconds a second has: rates count bytes in one.
const second = 1000000000

// cubeRootBits is enough for every root: 2^21 to the third is 2^63 already.
const cubeRootBits = 21

// A wide is a number of 128 bits, its lowest word first. Its words are half as
// wide as the numbers that are multiplied, so that the product of two words
// and what is carried to it fit into a uint64.
type wide [4]uint32

func within(x int64, low int64, high int64) bool { return low <= x && x <= high }

func isTime(ns int64) bool { return within(ns, 0, MaxTime) }

func isRate(rate int64) bool { return within(rate, 0, MaxRate) }

func isWindow(n int64) bool { return within(n, 0, MaxWindow) }

func isSegment(n int64) bool { return within(n, 1, MaxSegment) }

func Add(a int64, b int64) int64 {
	if b > 0 && a > math.MaxInt64-b {
		return math.MaxInt64
	}
	if b < 0 && a < math.MinInt64-b {
		return math.MinInt64
	}
	return a + b
}

func MulDiv(a int64, b int64, c int64) (int64, bool) {
	if a < 0 || b < 0 || c < 1 {
		return 0, false
	}
	quotient, fits := divide(multiply(uint64(a), uint64(b)), uint64(c))
	if !fits {
		return 0, false
	}
	return int64(quotient), true
}

func multiply(a uint64, b uint64) wide {
	x := [2]uint32{uint32(a), uint32(a >> 32)}
	y := [2]uint32{uint32(b), uint32(b >> 32)}
	var product wide
	for i := range x {
		var carry uint64
		for j := range y {
			sum := uint64(x[i])*uint64(y[j]) + uint64(product[i+j]) + carry
			product[i+j] = uint32(sum)
			carry = sum >> 32
		}
		product[i+len(y)] = uint32(carry)
	}
	return product
}

// divide wants c from 1 to 2^63 - 1: what is left over is below c, so that
// twice as much and a bit never pass a uint64. The flag is false where the
// quotient is above 2^63 - 1; it is then only a part of it.
func divide(n wide, c uint64) (uint64, bool) {
	var quotient, rest uint64
	fits := true
division:
	for i := len(n) - 1; i >= 0; i-- {
		for bit := 31; bit >= 0; bit-- {
			// Whatever bits still come, the quotient grows at least twofold.
			if quotient > math.MaxInt64/2 {
				fits = false
				break division
			}
			quotient <<= 1
			rest = rest<<1 | uint64(n[i]>>bit&1)
			if rest >= c {
				rest -= c
				quotient |= 1
			}
		}
	}
	return quotient, fits
}

func CubeRoot(n int64) int64 {
	if n < 0 {
		return -1
	}
	var root int64
	for bit := cubeRootBits - 1; bit >= 0; bit-- {
		next := root | 1<<bit
		if next*next*next <= n {
			root = next
		}
	}
	return root
}

func Bytes(rate int64, ns int64) int64 {
	if !isRate(rate) || !isTime(ns) {
		return -1
	}
	// The greatest rate in the longest time comes to 10^18: it always fits.
	n, _ := MulDiv(rate, ns, second)
	return n
}

func TimeFor(rate int64, n int64) int64 {
	if !isRate(rate) || !isWindow(n) {
		return -1
	}
	if n == 0 {
		return 0
	}
	if rate == 0 {
		return MaxTime
	}
	// n seconds are at most 10^18 nanoseconds: neither sum nor product wraps.
	return min((n*second+rate-1)/rate, MaxTime)
}
