// Package frac adds, multiplies, compares and writes exact fractions. It is layer 1: see shared/doc/01-frac.md.
package frac

import (
	"strconv"
	"strings"

	"finesse/api"
)

// MaxPlaces is how many digits after the point Round writes at most.
const MaxPlaces = 9

// ErrText: a string that is no fraction.
const ErrText api.Errno = 10

// Right reports whether a fraction is right.
func Right(f api.Frac) bool {
	return f.Den > 0 && gcd(size(f.Num), size(f.Den)) == 1
}

func allRight(l ...api.Frac) bool {
	for _, f := range l {
		if !Right(f) {
			return false
		}
	}
	return true
}

// Make returns num / den.
func Make(num, den int) (api.Frac, api.Errno) {
	if den == 0 {
		return api.Frac{}, api.ErrArg
	}
	n, d := size(num), size(den)
	g := gcd(n, d)
	return pack((num < 0) != (den < 0), wide{low: n / g}, wide{low: d / g})
}

// Neg returns -f.
func Neg(f api.Frac) (api.Frac, api.Errno) {
	if !Right(f) {
		return api.Frac{}, api.ErrArg
	}
	r := split(f).opposite()
	return pack(r.negative, wide{low: r.num}, wide{low: r.den})
}

// Add returns f + g.
func Add(f, g api.Frac) (api.Frac, api.Errno) {
	if !allRight(f, g) {
		return api.Frac{}, api.ErrArg
	}
	return split(f).plus(split(g))
}

// Sub returns f - g.
func Sub(f, g api.Frac) (api.Frac, api.Errno) {
	if !allRight(f, g) {
		return api.Frac{}, api.ErrArg
	}
	return split(f).plus(split(g).opposite())
}

// Mul returns f * g.
func Mul(f, g api.Frac) (api.Frac, api.Errno) {
	if !allRight(f, g) {
		return api.Frac{}, api.ErrArg
	}
	return split(f).times(split(g))
}

// Div returns f / g.
func Div(f, g api.Frac) (api.Frac, api.Errno) {
	if !allRight(f, g) || g == (api.Frac{Num: 0, Den: 1}) {
		return api.Frac{}, api.ErrArg
	}
	return split(f).times(split(g).reciprocal())
}

// Sum returns the sum of all its arguments.
func Sum(l ...api.Frac) (api.Frac, api.Errno) {
	// A fraction that is not right comes before a sum that is too long, wherever it stands.
	if !allRight(l...) {
		return api.Frac{}, api.ErrArg
	}
	sum := api.Frac{Num: 0, Den: 1}
	for _, f := range l {
		var e api.Errno
		if sum, e = split(sum).plus(split(f)); e != api.OK {
			return api.Frac{}, e
		}
	}
	return sum, api.OK
}

// Cmp compares fractions.
func Cmp(f, g api.Frac) (int, api.Errno) {
	if !allRight(f, g) {
		return 0, api.ErrArg
	}
	if f == g {
		return 0, api.OK
	}
	if before(split(f), split(g)) {
		return -1, api.OK
	}
	return 1, api.OK
}

// before needs two ratios that are not equal.
func before(r, s ratio) bool {
	if r.negative != s.negative {
		return r.negative
	}
	smaller := product(r.num, s.den).less(product(s.num, r.den))
	return smaller != r.negative
}

// Near returns the integer next to a fraction.
func Near(f api.Frac) (int, api.Errno) {
	if !Right(f) {
		return 0, api.ErrArg
	}
	r := split(f)
	n, rest := r.whole()
	if r.up(rest) {
		n++
	}
	return signed(r.negative, n), api.OK
}

// Round returns a fraction as a decimal number.
func Round(f api.Frac, places int) (string, api.Errno) {
	if !Right(f) || places < 0 || places > MaxPlaces {
		return "", api.ErrArg
	}
	unit := powerOfTen(places)
	n, part := split(f).decimal(unit)
	s := strconv.FormatUint(n, 10)
	if places > 0 {
		// The 1 that unit puts in front keeps the zeros that part begins with.
		s += "." + strconv.FormatUint(unit+part, 10)[1:]
	}
	if f.Num < 0 && (n != 0 || part != 0) {
		s = "-" + s
	}
	return s, api.OK
}

// decimal returns the rounded size as an integer and so many parts of which unit make 1.
func (r ratio) decimal(unit uint64) (uint64, uint64) {
	n, rest := r.whole()
	parts, rest := product(rest, unit).over(r.den)
	part := parts[low]
	if r.up(rest) {
		part++
	}
	if part == unit {
		return n + 1, 0
	}
	return n, part
}

func powerOfTen(n int) uint64 {
	p := uint64(1)
	for range n {
		p *= 10
	}
	return p
}

// Text returns a fraction as text.
func Text(f api.Frac) (string, api.Errno) {
	if !Right(f) {
		return "", api.ErrArg
	}
	s := strconv.Itoa(f.Num)
	if f.Den != 1 {
		s += "/" + strconv.Itoa(f.Den)
	}
	return s, api.OK
}

// Read returns the fraction with a text.
func Read(s string) (api.Frac, api.Errno) {
	num, den, slash := strings.Cut(s, "/")
	if !slash {
		den = "1"
	}
	n, bad := strconv.Atoi(num)
	if bad != nil {
		return api.Frac{}, ErrText
	}
	d, bad := strconv.Atoi(den)
	if bad != nil {
		return api.Frac{}, ErrText
	}
	f := api.Frac{Num: n, Den: d}
	// Atoi takes signs and zeros in front that no text has.
	if text, e := Text(f); e != api.OK || text != s {
		return api.Frac{}, ErrText
	}
	return f, api.OK
}
