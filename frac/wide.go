package frac

import "math/bits"

// The places of the halves of a wide number.
const (
	high = iota
	low
)

// wide is a number of 128 bits: what comes up on the way to a result of 64 bits.
type wide [2]uint64

func product(a, b uint64) wide {
	h, l := bits.Mul64(a, b)
	return wide{high: h, low: l}
}

func (w wide) plus(v wide) wide {
	l, carry := bits.Add64(w[low], v[low], 0)
	h, _ := bits.Add64(w[high], v[high], carry)
	return wide{high: h, low: l}
}

func (w wide) less(v wide) bool {
	return w[high] < v[high] || w[high] == v[high] && w[low] < v[low]
}

// minus needs a v that is not greater than w.
func (w wide) minus(v wide) wide {
	l, borrow := bits.Sub64(w[low], v[low], 0)
	h, _ := bits.Sub64(w[high], v[high], borrow)
	return wide{high: h, low: l}
}

// over returns the quotient and the rest by a number other than 0.
func (w wide) over(n uint64) (wide, uint64) {
	l, rest := bits.Div64(w[high]%n, w[low], n)
	return wide{high: w[high] / n, low: l}, rest
}

// gcd of 0 and n is n.
func gcd(a, b uint64) uint64 {
	for b != 0 {
		a, b = b, a%b
	}
	return a
}
