package frac

import (
	"math"

	"finesse/api"
)

// ratio is a sign and two sizes: unlike api.Frac it has room for the opposite and the reciprocal of every right fraction.
type ratio struct {
	negative bool
	num, den uint64
}

func size(n int) uint64 {
	if n < 0 {
		return -uint64(n)
	}
	return uint64(n)
}

func signed(negative bool, n uint64) int {
	if negative {
		return int(-n)
	}
	return int(n)
}

func split(f api.Frac) ratio {
	return ratio{f.Num < 0, size(f.Num), size(f.Den)}
}

// pack needs a num and a den without a common divisor.
func pack(negative bool, num, den wide) (api.Frac, api.Errno) {
	limit := uint64(math.MaxInt64)
	if negative {
		limit++
	}
	if num[high] != 0 || num[low] > limit || den[high] != 0 || den[low] > math.MaxInt64 {
		return api.Frac{}, api.ErrLong
	}
	return api.Frac{Num: signed(negative, num[low]), Den: int(den[low])}, api.OK
}

func (r ratio) opposite() ratio {
	return ratio{!r.negative, r.num, r.den}
}

func (r ratio) reciprocal() ratio {
	return ratio{r.negative, r.den, r.num}
}

// whole returns the integer part of the size and what is left of it, in parts of the denominator.
func (r ratio) whole() (uint64, uint64) {
	return r.num / r.den, r.num % r.den
}

// up reports whether a rest is half of the denominator or more; the rest is not doubled because that may not fit.
func (r ratio) up(rest uint64) bool {
	return rest >= r.den-rest
}

// plus divides by the common divisor of the denominators first: then the sum fits a wide number, and only a divisor of that divisor can be left to reduce by.
func (r ratio) plus(s ratio) (api.Frac, api.Errno) {
	common := gcd(r.den, s.den)
	a, b := product(r.num, s.den/common), product(s.num, r.den/common)
	negative, total := r.negative, a.plus(b)
	if r.negative != s.negative {
		if a.less(b) {
			negative, total = s.negative, b.minus(a)
		} else {
			total = a.minus(b)
		}
	}
	_, rest := total.over(common)
	left := gcd(rest, common)
	num, _ := total.over(left)
	return pack(negative, num, product(r.den/common, s.den/left))
}

// times divides crosswise first, which leaves the product in lowest terms.
func (r ratio) times(s ratio) (api.Frac, api.Errno) {
	a, b := gcd(r.num, s.den), gcd(s.num, r.den)
	return pack(r.negative != s.negative, product(r.num/a, s.num/b), product(r.den/b, s.den/a))
}
