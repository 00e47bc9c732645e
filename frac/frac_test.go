package frac_test

import (
	"math"
	"math/big"
	"slices"
	"strings"
	"testing"

	"finesse/api"
	"finesse/frac"
)

const (
	most  = math.MaxInt64
	least = math.MinInt64
)

func of(num, den int) api.Frac { return api.Frac{Num: num, Den: den} }

// result is what most functions return.
type result struct {
	f api.Frac
	e api.Errno
}

func got(f api.Frac, e api.Errno) result { return result{f, e} }

func fine(num, den int) result { return result{f: of(num, den)} }

func failed(e api.Errno) result { return result{e: e} }

// wrong are fractions that are not right, each for another reason or at another limit.
var wrong = []api.Frac{of(0, 0), of(1, 0), of(0, 2), of(0, -1), of(1, -1), of(-1, -1), of(3, -2), of(6, 4), of(-6, 4), of(7, 7), of(least, 2), of(least, least), of(1, least), of(most, most), of(most, 7)}

// edges are numbers at which halves, signs and sizes change.
func edges() []int {
	var l []int
	for _, n := range []int{0, 1, 2, 3, 6, 7, 10, 12, 1000, 1<<31 - 1, 1 << 31, 1<<32 - 1, 1 << 32, 1<<32 + 1, 3 << 40, 1000000007, 1 << 62, 1<<62 - 1, 3 << 61, most - 1, most} {
		l = append(l, n, -n)
	}
	l = append(l, least, least+2)
	slices.Sort(l)
	return slices.Compact(l)
}

// samples are all right fractions of two edges.
func samples() []api.Frac {
	seen := map[api.Frac]bool{}
	var l []api.Frac
	for _, num := range edges() {
		for _, den := range edges() {
			f, e := frac.Make(num, den)
			if e == api.OK && !seen[f] {
				seen[f] = true
				l = append(l, f)
			}
		}
	}
	return l
}

func rat(f api.Frac) *big.Rat { return big.NewRat(int64(f.Num), int64(f.Den)) }

// exact is the result that a sum or product without limits demands.
func exact(r *big.Rat) result {
	if !r.Num().IsInt64() || !r.Denom().IsInt64() {
		return failed(api.ErrLong)
	}
	return fine(int(r.Num().Int64()), int(r.Denom().Int64()))
}

// P1.1
func TestRight(t *testing.T) {
	for _, f := range wrong {
		if frac.Right(f) {
			t.Errorf("%v is right", f)
		}
	}
	for _, f := range []api.Frac{of(0, 1), of(1, 1), of(-1, 1), of(3, 2), of(-3, 2), of(most, 1), of(1, most), of(least, 1), of(least, 3), of(least, most), of(most, most-1)} {
		if !frac.Right(f) {
			t.Errorf("%v is not right", f)
		}
	}
	for _, num := range edges() {
		for _, den := range edges() {
			common := new(big.Int).GCD(nil, nil, new(big.Int).Abs(big.NewInt(int64(num))), new(big.Int).Abs(big.NewInt(int64(den))))
			want := den > 0 && common.Cmp(big.NewInt(1)) == 0
			if frac.Right(of(num, den)) != want {
				t.Errorf("Right(%d/%d) is not %t", num, den, want)
			}
		}
	}
}

// P1.1
func TestMake(t *testing.T) {
	for _, c := range []struct {
		num, den int
		want     result
	}{
		{6, -4, fine(-3, 2)}, {-6, -4, fine(3, 2)}, {-6, 4, fine(-3, 2)}, {6, 4, fine(3, 2)}, {4, 2, fine(2, 1)},
		{0, 7, fine(0, 1)}, {0, -7, fine(0, 1)}, {0, least, fine(0, 1)}, {0, 0, failed(api.ErrArg)}, {5, 0, failed(api.ErrArg)}, {least, 0, failed(api.ErrArg)},
		{least, 1, fine(least, 1)}, {least, -1, failed(api.ErrLong)}, {least, 3, fine(least, 3)}, {least, -3, failed(api.ErrLong)},
		{least, -2, fine(1<<62, 1)}, {least, least, fine(1, 1)}, {1, least, failed(api.ErrLong)}, {-3, least, failed(api.ErrLong)}, {6, least, fine(-3, 1<<62)},
	} {
		if r := got(frac.Make(c.num, c.den)); r != c.want {
			t.Errorf("Make(%d, %d) is %v, not %v", c.num, c.den, r, c.want)
		}
	}
	for _, num := range edges() {
		for _, den := range edges() {
			want := failed(api.ErrArg)
			if den != 0 {
				want = exact(new(big.Rat).Quo(rat(of(num, 1)), rat(of(den, 1))))
			}
			if r := got(frac.Make(num, den)); r != want {
				t.Errorf("Make(%d, %d) is %v, not %v", num, den, r, want)
			}
		}
	}
}

// P1.2
func TestArithmeticOfTheChapter(t *testing.T) {
	for _, c := range []struct {
		name string
		r    result
		want result
	}{
		{"1/6 + 1/10", got(frac.Add(of(1, 6), of(1, 10))), fine(4, 15)},
		{"2/3 * 9/4", got(frac.Mul(of(2, 3), of(9, 4))), fine(3, 2)},
		{"2/3 : 0", got(frac.Div(of(2, 3), of(0, 1))), failed(api.ErrArg)},
		{"0 : 0", got(frac.Div(of(0, 1), of(0, 1))), failed(api.ErrArg)},
		{"2^62 + 2^62", got(frac.Add(of(1<<62, 1), of(1<<62, 1))), failed(api.ErrLong)},
		{"-2^62 - 2^62", got(frac.Sub(of(-1<<62, 1), of(1<<62, 1))), fine(least, 1)},
		{"2^-40 + 2^-40", got(frac.Add(of(1, 1<<40), of(1, 1<<40))), fine(1, 1<<39)},
		{"2^-62 * 1/2", got(frac.Mul(of(1, 1<<62), of(1, 2))), failed(api.ErrLong)},
		{"-(-2^63)", got(frac.Neg(of(least, 1))), failed(api.ErrLong)},
		{"-(-2^63/3)", got(frac.Neg(of(least, 3))), failed(api.ErrLong)},
		{"-0", got(frac.Neg(of(0, 1))), fine(0, 1)},
		{"-1 - -2^63", got(frac.Sub(of(-1, 1), of(least, 1))), fine(most, 1)},
		{"0 - -2^63", got(frac.Sub(of(0, 1), of(least, 1))), failed(api.ErrLong)},
		{"-2^63 : -2^63", got(frac.Div(of(least, 1), of(least, 1))), fine(1, 1)},
		{"1 : -2^63", got(frac.Div(of(1, 1), of(least, 1))), failed(api.ErrLong)},
		{"2/3 : -2^63", got(frac.Div(of(2, 3), of(least, 1))), failed(api.ErrLong)},
		{"4/3 : -2^63", got(frac.Div(of(4, 3), of(least, 1))), fine(-1, 3<<61)},
	} {
		if c.r != c.want {
			t.Errorf("%s is %v, not %v", c.name, c.r, c.want)
		}
	}
}

// P1.2
func TestArithmeticIsExact(t *testing.T) {
	l := samples()
	for _, f := range l {
		if r := got(frac.Neg(f)); r != exact(new(big.Rat).Neg(rat(f))) {
			t.Fatalf("Neg(%v) is %v", f, r)
		}
		a := rat(f)
		for _, g := range l {
			b := rat(g)
			if r := got(frac.Add(f, g)); r != exact(new(big.Rat).Add(a, b)) {
				t.Fatalf("Add(%v, %v) is %v", f, g, r)
			}
			if r := got(frac.Sub(f, g)); r != exact(new(big.Rat).Sub(a, b)) {
				t.Fatalf("Sub(%v, %v) is %v", f, g, r)
			}
			if r := got(frac.Mul(f, g)); r != exact(new(big.Rat).Mul(a, b)) {
				t.Fatalf("Mul(%v, %v) is %v", f, g, r)
			}
			want := failed(api.ErrArg)
			if g.Num != 0 {
				want = exact(new(big.Rat).Quo(a, b))
			}
			if r := got(frac.Div(f, g)); r != want {
				t.Fatalf("Div(%v, %v) is %v", f, g, r)
			}
		}
	}
}

// P1.2
func TestSum(t *testing.T) {
	for _, c := range []struct {
		l    []api.Frac
		want result
	}{
		{nil, fine(0, 1)},
		{[]api.Frac{of(-5, 7)}, fine(-5, 7)},
		{[]api.Frac{of(least, 1)}, fine(least, 1)},
		{[]api.Frac{of(1, 2), of(1, 3), of(1, 6)}, fine(1, 1)},
		{[]api.Frac{of(1, 6), of(1, 10), of(-4, 15)}, fine(0, 1)},
		{[]api.Frac{of(most, 1), of(-1, 1), of(1, 1)}, fine(most, 1)},
		{[]api.Frac{of(most, 1), of(1, 1), of(-1, 1)}, failed(api.ErrLong)},
		{[]api.Frac{of(1, 2), of(1, most), of(-1, most)}, failed(api.ErrLong)},
		{[]api.Frac{of(most, 1), of(1, 1)}, failed(api.ErrLong)},
		{[]api.Frac{of(most, 1), of(1, 1), of(2, 2)}, failed(api.ErrArg)},
		{[]api.Frac{of(2, 2)}, failed(api.ErrArg)},
		{[]api.Frac{of(1, 2), of(1, 0), of(1, 3)}, failed(api.ErrArg)},
	} {
		before := slices.Clone(c.l)
		if r := got(frac.Sum(c.l...)); r != c.want {
			t.Errorf("Sum(%v) is %v, not %v", c.l, r, c.want)
		}
		if !slices.Equal(c.l, before) {
			t.Errorf("Sum made %v of its arguments %v", c.l, before)
		}
	}
	if r := got(frac.Sum()); r != fine(0, 1) {
		t.Errorf("Sum() is %v", r)
	}
}

// P1.2
func TestArithmeticOfWrongFractions(t *testing.T) {
	arg := failed(api.ErrArg)
	for _, f := range wrong {
		if r := got(frac.Neg(f)); r != arg {
			t.Errorf("Neg(%v) is %v", f, r)
		}
		if r := got(frac.Sum(of(1, 2), f)); r != arg {
			t.Errorf("Sum(1/2, %v) is %v", f, r)
		}
		for _, g := range []api.Frac{of(1, 2), of(0, 1), f} {
			for i, r := range []result{got(frac.Add(f, g)), got(frac.Add(g, f)), got(frac.Sub(f, g)), got(frac.Sub(g, f)), got(frac.Mul(f, g)), got(frac.Mul(g, f)), got(frac.Div(f, g)), got(frac.Div(g, f))} {
				if r != arg {
					t.Errorf("call %d with %v and %v is %v", i, f, g, r)
				}
			}
		}
	}
}

// P1.3
func TestCmp(t *testing.T) {
	for _, c := range []struct {
		f, g api.Frac
		want int
	}{
		{of(1, 3), of(3, 10), 1}, {of(3, 10), of(1, 3), -1}, {of(1, 3), of(1, 3), 0}, {of(0, 1), of(0, 1), 0}, {of(-1, 3), of(0, 1), -1}, {of(0, 1), of(-1, 3), 1},
		{of(most, most-1), of(most-1, most-2), -1}, {of(least, most), of(-1, 1), -1}, {of(least, 1), of(most, 1), -1},
	} {
		if n, e := frac.Cmp(c.f, c.g); n != c.want || e != api.OK {
			t.Errorf("Cmp(%v, %v) is %d, %d", c.f, c.g, n, e)
		}
	}
	l := samples()
	for _, f := range l {
		a := rat(f)
		for _, g := range l {
			if n, e := frac.Cmp(f, g); n != a.Cmp(rat(g)) || e != api.OK {
				t.Fatalf("Cmp(%v, %v) is %d, %d", f, g, n, e)
			}
		}
	}
	for _, f := range wrong {
		for _, p := range [][2]api.Frac{{f, of(1, 2)}, {of(1, 2), f}, {f, f}} {
			if n, e := frac.Cmp(p[0], p[1]); n != 0 || e != api.ErrArg {
				t.Errorf("Cmp(%v, %v) is %d, %d", p[0], p[1], n, e)
			}
		}
	}
}

// nearest is the integer next to r; of two, the one farther from 0.
func nearest(r *big.Rat) *big.Int {
	size := new(big.Rat).Add(new(big.Rat).Abs(r), big.NewRat(1, 2))
	n := new(big.Int).Quo(size.Num(), size.Denom())
	if r.Sign() < 0 {
		n.Neg(n)
	}
	return n
}

// P1.3
func TestNear(t *testing.T) {
	for _, c := range []struct {
		f    api.Frac
		want int
	}{
		{of(5, 2), 3}, {of(-5, 2), -3}, {of(12, 5), 2}, {of(-12, 5), -2}, {of(13, 5), 3}, {of(0, 1), 0}, {of(1, 2), 1}, {of(-1, 2), -1}, {of(1, 3), 0}, {of(-1, 3), 0},
		{of(most, 1), most}, {of(least, 1), least}, {of(most, 2), 1 << 62}, {of(1, most), 0}, {of(1<<62, most), 1}, {of(1<<62-1, most), 0},
	} {
		if n, e := frac.Near(c.f); n != c.want || e != api.OK {
			t.Errorf("Near(%v) is %d, %d", c.f, n, e)
		}
	}
	for _, f := range samples() {
		if n, e := frac.Near(f); big.NewInt(int64(n)).Cmp(nearest(rat(f))) != 0 || e != api.OK {
			t.Errorf("Near(%v) is %d, %d", f, n, e)
		}
	}
	for _, f := range wrong {
		if n, e := frac.Near(f); n != 0 || e != api.ErrArg {
			t.Errorf("Near(%v) is %d, %d", f, n, e)
		}
	}
}

// P1.4
func TestRound(t *testing.T) {
	if frac.MaxPlaces != 9 {
		t.Errorf("MaxPlaces is %d", frac.MaxPlaces)
	}
	for _, c := range []struct {
		f      api.Frac
		places int
		want   string
	}{
		{of(2, 3), 2, "0.67"}, {of(-1, 8), 2, "-0.13"}, {of(1, 8), 2, "0.13"}, {of(1999, 1000), 0, "2"}, {of(-1, 1000), 2, "0.00"}, {of(1, 1000), 2, "0.00"},
		{of(-1, 200), 2, "-0.01"}, {of(-1, 3), 0, "0"}, {of(-1, 2), 0, "-1"}, {of(0, 1), 0, "0"}, {of(0, 1), 9, "0.000000000"}, {of(1, 20), 1, "0.1"}, {of(1, 50), 3, "0.020"},
		{of(999, 1000), 2, "1.00"}, {of(-999, 1000), 2, "-1.00"}, {of(7, 1), 1, "7.0"}, {of(-7, 1), 0, "-7"}, {of(19999999999, 10000000000), 9, "2.000000000"},
		{of(most, 1), 9, "9223372036854775807.000000000"}, {of(least, 1), 9, "-9223372036854775808.000000000"}, {of(least, 3), 9, "-3074457345618258602.666666667"}, {of(most, 2), 0, "4611686018427387904"},
		{of(1, most), 9, "0.000000000"}, {of(most-1, most), 9, "1.000000000"}, {of(1-most, most), 9, "-1.000000000"},
	} {
		if s, e := frac.Round(c.f, c.places); s != c.want || e != api.OK {
			t.Errorf("Round(%v, %d) is %q, %d, not %q", c.f, c.places, s, e, c.want)
		}
	}
	for _, f := range samples() {
		unit := big.NewInt(1)
		for places := range frac.MaxPlaces + 1 {
			n := nearest(new(big.Rat).Mul(rat(f), new(big.Rat).SetInt(unit)))
			want := new(big.Rat).SetFrac(n, unit).FloatString(places)
			if s, e := frac.Round(f, places); s != want || e != api.OK {
				t.Errorf("Round(%v, %d) is %q, %d, not %q", f, places, s, e, want)
			}
			unit.Mul(unit, big.NewInt(10))
		}
	}
	for _, places := range []int{-1, frac.MaxPlaces + 1, least, most} {
		if s, e := frac.Round(of(1, 2), places); s != "" || e != api.ErrArg {
			t.Errorf("Round(1/2, %d) is %q, %d", places, s, e)
		}
	}
	for _, f := range wrong {
		if s, e := frac.Round(f, 2); s != "" || e != api.ErrArg {
			t.Errorf("Round(%v, 2) is %q, %d", f, s, e)
		}
	}
}

// P1.5
func TestText(t *testing.T) {
	for _, c := range []struct {
		f    api.Frac
		want string
	}{
		{of(-3, 2), "-3/2"}, {of(4, 1), "4"}, {of(-4, 1), "-4"}, {of(0, 1), "0"}, {of(1, 10), "1/10"}, {of(least, most), "-9223372036854775808/9223372036854775807"}, {of(most, 1), "9223372036854775807"},
	} {
		if s, e := frac.Text(c.f); s != c.want || e != api.OK {
			t.Errorf("Text(%v) is %q, %d", c.f, s, e)
		}
		if r := got(frac.Read(c.want)); r != (result{f: c.f}) {
			t.Errorf("Read(%q) is %v", c.want, r)
		}
	}
	for _, f := range wrong {
		if s, e := frac.Text(f); s != "" || e != api.ErrArg {
			t.Errorf("Text(%v) is %q, %d", f, s, e)
		}
	}
}

// P1.5
func TestReadOfNoFraction(t *testing.T) {
	if frac.ErrText != 10 {
		t.Errorf("ErrText is %d", frac.ErrText)
	}
	for _, s := range []string{
		"6/4", "3/-2", "03", "3/1", "-3/1", "", "-", "/", "1/", "/2", "-/2", "-03", "003/2", "3/02", "3/+2", "+3", "+3/2", "-0", "0/1", "0/2", "-0/1", "1/0", "0/0", "--3", "1/2/3", "1//2", "3/2/",
		" 3", "3 ", "3 /2", "3/ 2", "3\n", "3\x00", "1.5", "1e3", "0x10", "0b1", "1_000", "1/1_0", "a", "3a", "\u0663", "\xff",
		"9223372036854775808", "-9223372036854775809", "1/9223372036854775808", "18446744073709551617", "1/18446744073709551617", strings.Repeat("9", 1000), "1/" + strings.Repeat("3", 1000), strings.Repeat("/", 1000),
	} {
		if r := got(frac.Read(s)); r != failed(frac.ErrText) {
			t.Errorf("Read(%q) is %v", s, r)
		}
	}
}

// P1.6
func TestWhatIsDoneCanBeUndone(t *testing.T) {
	l := samples()
	for _, f := range l {
		for _, g := range l {
			sum, product := got(frac.Add(f, g)), got(frac.Mul(f, g))
			if sum != got(frac.Add(g, f)) || product != got(frac.Mul(g, f)) {
				t.Fatalf("the order of %v and %v matters", f, g)
			}
			if sum.e == api.OK && got(frac.Sub(sum.f, g)) != (result{f: f}) {
				t.Fatalf("%v + %v - %v is not the first", f, g, g)
			}
			if product.e == api.OK && g.Num != 0 && got(frac.Div(product.f, g)) != (result{f: f}) {
				t.Fatalf("%v * %v : %v is not the first", f, g, g)
			}
		}
	}
}

// P1.6
func TestCmpOrdersAllFractions(t *testing.T) {
	l := samples()
	slices.SortFunc(l, func(f, g api.Frac) int {
		n, _ := frac.Cmp(f, g)
		return n
	})
	for i, f := range l {
		for j, g := range l {
			want := 0
			if i < j {
				want = -1
			} else if i > j {
				want = 1
			}
			if n, e := frac.Cmp(f, g); n != want || e != api.OK {
				t.Fatalf("Cmp(%v, %v) is %d, %d, but their places are %d and %d", f, g, n, e, i, j)
			}
		}
	}
}

// P1.6
func TestTextAndReadAreOpposite(t *testing.T) {
	for _, f := range samples() {
		s, e := frac.Text(f)
		if r := got(frac.Read(s)); e != api.OK || r != (result{f: f}) {
			t.Errorf("Text(%v) is %q, %d, and Read of it %v", f, s, e, r)
		}
	}
	for num := -20; num <= 20; num++ {
		for den := -20; den <= 20; den++ {
			s := big.NewInt(int64(num)).String() + "/" + big.NewInt(int64(den)).String()
			r := got(frac.Read(s))
			if r.e == api.OK {
				if text, _ := frac.Text(r.f); text != s {
					t.Errorf("Read(%q) is %v, whose text is %q", s, r.f, text)
				}
			} else if r != failed(frac.ErrText) || den > 1 && frac.Right(of(num, den)) {
				t.Errorf("Read(%q) is %v", s, r)
			}
		}
	}
}

// P1.6
func TestRoundIsWithinHalfAUnit(t *testing.T) {
	for _, f := range samples() {
		half := big.NewRat(1, 2)
		for places := range frac.MaxPlaces + 1 {
			s, _ := frac.Round(f, places)
			r, ok := new(big.Rat).SetString(s)
			if !ok || r.Sub(r, rat(f)).Abs(r).Cmp(half) > 0 {
				t.Errorf("Round(%v, %d) is %q", f, places, s)
			}
			half.Quo(half, big.NewRat(10, 1))
		}
	}
}
