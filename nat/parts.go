package nat

import "math/bits"

// partBits is how many bits a part of a number has.
const partBits = 32

// plus returns the sum and what does not fit into it.
func plus(a, b N) (N, uint32) {
	var sum N
	var carry uint32
	for i := range sum {
		sum[i], carry = bits.Add32(a[i], b[i], carry)
	}
	return sum, carry
}

// minus returns the difference and what it lacks.
func minus(a, b N) (N, uint32) {
	var difference N
	var borrow uint32
	for i := range difference {
		difference[i], borrow = bits.Sub32(a[i], b[i], borrow)
	}
	return difference, borrow
}

// times returns the lower and the upper half of the product.
func times(a, b N) (N, N) {
	var p [8]uint32
	for i := range a {
		var carry uint64
		for j := range b {
			// The greatest sum that comes up is 2^64 - 1.
			sum := uint64(a[i])*uint64(b[j]) + uint64(p[i+j]) + carry
			p[i+j], carry = uint32(sum), sum>>partBits
		}
		p[i+len(b)] = uint32(carry)
	}
	return N{p[0], p[1], p[2], p[3]}, N{p[4], p[5], p[6], p[7]}
}

// divided returns the quotient and the remainder by a number other than 0: it takes away b times smaller and smaller powers of 2. The greatest of them gives b as many bits as a has, so no bit of b is lost.
func divided(a, b N) (N, N) {
	var quotient N
	for n := length(a) - length(b); n >= 0; n-- {
		if rest, borrow := minus(a, shifted(b, n)); borrow == 0 {
			a = rest
			quotient[n/partBits] |= 1 << (n % partBits)
		}
	}
	return quotient, a
}

// length returns how many bits a number has, without leading zeros.
func length(a N) int {
	for i := len(a) - 1; i >= 0; i-- {
		if a[i] != 0 {
			return i*partBits + bits.Len32(a[i])
		}
	}
	return 0
}

// shifted returns a times 2^n, without what does not fit.
func shifted(a N, n int) N {
	var up N
	var below uint32
	for i := n / partBits; i < len(a); i++ {
		part := a[i-n/partBits]
		up[i] = part<<(n%partBits) | below>>(partBits-n%partBits)
		below = part
	}
	return up
}

// tenfold returns 10 * a + digit, and what does not fit into it.
func tenfold(a N, digit uint32) (N, uint32) {
	carry := uint64(digit)
	for i := range a {
		sum := uint64(a[i])*10 + carry
		a[i], carry = uint32(sum), sum>>partBits
	}
	return a, uint32(carry)
}

// tenth returns a / 10, and the remainder.
func tenth(a N) (N, uint32) {
	var rest uint32
	for i := len(a) - 1; i >= 0; i-- {
		a[i], rest = bits.Div32(rest, a[i], 10)
	}
	return a, rest
}
