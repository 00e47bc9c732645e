package nat_test

import (
	"math"
	"math/big"
	"math/bits"
	"slices"
	"strings"
	"testing"

	"finesse/api"
	"finesse/nat"
)

const full = math.MaxUint32

// most is 2^128 - 1.
var most = nat.N{full, full, full, full}

// result is what most functions return.
type result struct {
	n nat.N
	e api.Errno
}

func got(n nat.N, e api.Errno) result { return result{n, e} }

func fine(n nat.N) result { return result{n: n} }

func failed(e api.Errno) result { return result{e: e} }

// exact is the number without limits.
func exact(a nat.N) *big.Int {
	n := new(big.Int)
	for _, part := range slices.Backward(a[:]) {
		n.Or(n.Lsh(n, 32), big.NewInt(int64(part)))
	}
	return n
}

// limited is the result that a number without limits demands.
func limited(n *big.Int) result {
	if n.Sign() < 0 {
		return failed(nat.ErrLess)
	}
	if n.BitLen() > 128 {
		return failed(api.ErrLong)
	}
	var r result
	mask := big.NewInt(full)
	for i := range r.n {
		part := new(big.Int).Rsh(n, uint(32*i))
		r.n[i] = uint32(part.And(part, mask).Uint64())
	}
	return r
}

// samples are numbers with all combinations of parts at which carries begin or end, powers of 2 and of 10 and their neighbours, and numbers of all lengths without a pattern.
func samples() []nat.N {
	l := []nat.N{}
	for _, a := range []uint32{0, 1, full} {
		for _, b := range []uint32{0, 1, full} {
			for _, c := range []uint32{0, 1, full} {
				for _, d := range []uint32{0, 1, full} {
					l = append(l, nat.N{a, b, c, d})
				}
			}
		}
	}
	one := big.NewInt(1)
	for base, powers := range map[int64]int{2: 129, 10: 40} {
		for n := range powers {
			power := new(big.Int).Exp(big.NewInt(base), big.NewInt(int64(n)), nil)
			for _, near := range []*big.Int{new(big.Int).Sub(power, one), power, new(big.Int).Add(power, one)} {
				if r := limited(near); r.e == api.OK && (n%5 == 0 || n > 125) {
					l = append(l, r.n)
				}
			}
		}
	}
	state := uint64(1)
	for length := 1; length <= 128; length += 7 {
		n := new(big.Int)
		for range 2 {
			state = bits.RotateLeft64(state*6364136223846793005+1442695040888963407, 29)
			n.Or(n.Lsh(n, 64), new(big.Int).SetUint64(state))
		}
		l = append(l, limited(n.Rsh(n, uint(128-length))).n)
	}
	slices.SortFunc(l, func(a, b nat.N) int { return exact(a).Cmp(exact(b)) })
	return slices.Compact(l)
}

// P2.1
func TestOfAndInt(t *testing.T) {
	for _, c := range []struct {
		n    int
		want nat.N
	}{
		{0, nat.N{}}, {1, nat.N{1}}, {full, nat.N{full}}, {1 << 32, nat.N{0, 1}}, {3<<32 + 5, nat.N{5, 3}}, {1 << 62, nat.N{0, 1 << 30}}, {math.MaxInt64 - 1, nat.N{full - 1, 1<<31 - 1}}, {math.MaxInt64, nat.N{full, 1<<31 - 1}},
	} {
		if r := got(nat.Of(c.n)); r != fine(c.want) {
			t.Errorf("Of(%d) is %v", c.n, r)
		}
		if n, e := nat.Int(c.want); n != c.n || e != api.OK {
			t.Errorf("Int(%v) is %d, %d", c.want, n, e)
		}
	}
	for _, n := range []int{-1, -5, -1 << 32, math.MinInt64, math.MinInt64 + 1} {
		if r := got(nat.Of(n)); r != failed(nat.ErrLess) {
			t.Errorf("Of(%d) is %v", n, r)
		}
	}
	for _, a := range []nat.N{{0, 1 << 31}, {full, full}, {0, 0, 1}, {5, 0, 1}, {0, 0, 0, 1}, {5, 0, 0, 1 << 31}, most} {
		if n, e := nat.Int(a); n != 0 || e != api.ErrLong {
			t.Errorf("Int(%v) is %d, %d", a, n, e)
		}
	}
}

// P2.1
func TestIntAndCmpAreExact(t *testing.T) {
	l := samples()
	for _, a := range l {
		n, e := nat.Int(a)
		if whole := exact(a); whole.IsInt64() {
			if int64(n) != whole.Int64() || e != api.OK {
				t.Errorf("Int(%v) is %d, %d", a, n, e)
			}
		} else if n != 0 || e != api.ErrLong {
			t.Errorf("Int(%v) is %d, %d", a, n, e)
		}
		for _, b := range l {
			if order := nat.Cmp(a, b); order != exact(a).Cmp(exact(b)) {
				t.Fatalf("Cmp(%v, %v) is %d", a, b, order)
			}
		}
	}
}

// P2.1
func TestCmp(t *testing.T) {
	for _, c := range []struct {
		a, b nat.N
		want int
	}{
		{nat.N{}, nat.N{}, 0}, {most, most, 0}, {nat.N{5}, nat.N{7}, -1}, {nat.N{7}, nat.N{5}, 1}, {nat.N{full, full, full}, nat.N{0, 0, 0, 1}, -1},
		{nat.N{0, 1}, nat.N{full}, 1}, {nat.N{1, 2, 3, 4}, nat.N{4, 3, 2, 1}, 1}, {nat.N{1, 2, 3, 4}, nat.N{2, 2, 3, 4}, -1}, {nat.N{0, 0, 0, 1 << 31}, nat.N{1}, 1},
	} {
		if order := nat.Cmp(c.a, c.b); order != c.want {
			t.Errorf("Cmp(%v, %v) is %d", c.a, c.b, order)
		}
	}
}

// P2.2, P2.3
func TestArithmeticOfTheChapter(t *testing.T) {
	for _, c := range []struct {
		name    string
		r, want result
	}{
		{"2^64 * 2^64", got(nat.Mul(nat.N{0, 0, 1}, nat.N{0, 0, 1})), failed(api.ErrLong)},
		{"(2^64 - 1) * (2^64 + 1)", got(nat.Mul(nat.N{full, full}, nat.N{1, 0, 1})), fine(most)},
		{"5 - 7", got(nat.Sub(nat.N{5}, nat.N{7})), failed(nat.ErrLess)},
		{"7 - 5", got(nat.Sub(nat.N{7}, nat.N{5})), fine(nat.N{2})},
		{"5 - 5", got(nat.Sub(nat.N{5}, nat.N{5})), fine(nat.N{})},
		{"2^128 - 1 + 1", got(nat.Add(most, nat.N{1})), failed(api.ErrLong)},
		{"2^127 + 2^127", got(nat.Add(nat.N{0, 0, 0, 1 << 31}, nat.N{0, 0, 0, 1 << 31})), failed(api.ErrLong)},
		{"2^128 - 2 + 1", got(nat.Add(nat.N{full - 1, full, full, full}, nat.N{1})), fine(most)},
		{"gcd of 12 and 18", fine(nat.Gcd(nat.N{12}, nat.N{18})), fine(nat.N{6})},
		{"gcd of 0 and 5", fine(nat.Gcd(nat.N{}, nat.N{5})), fine(nat.N{5})},
		{"gcd of 5 and 0", fine(nat.Gcd(nat.N{5}, nat.N{})), fine(nat.N{5})},
		{"gcd of 0 and 0", fine(nat.Gcd(nat.N{}, nat.N{})), fine(nat.N{})},
		{"gcd of 2^128 - 1 and itself", fine(nat.Gcd(most, most)), fine(most)},
	} {
		if c.r != c.want {
			t.Errorf("%s is %v, not %v", c.name, c.r, c.want)
		}
	}
}

// P2.2, P2.6
func TestSumsAndProductsAreExact(t *testing.T) {
	l := samples()
	for _, a := range l {
		for _, b := range l {
			x, y := exact(a), exact(b)
			sum := got(nat.Add(a, b))
			if sum != limited(new(big.Int).Add(x, y)) {
				t.Fatalf("Add(%v, %v) is %v", a, b, sum)
			}
			if r := got(nat.Sub(a, b)); r != limited(new(big.Int).Sub(x, y)) {
				t.Fatalf("Sub(%v, %v) is %v", a, b, r)
			}
			product := got(nat.Mul(a, b))
			if product != limited(new(big.Int).Mul(x, y)) {
				t.Fatalf("Mul(%v, %v) is %v", a, b, product)
			}
			if sum != got(nat.Add(b, a)) || product != got(nat.Mul(b, a)) {
				t.Fatalf("the order of %v and %v matters", a, b)
			}
			if sum.e == api.OK && got(nat.Sub(sum.n, b)) != fine(a) {
				t.Fatalf("%v + %v - %v is not the first", a, b, b)
			}
		}
	}
}

// P2.2
func TestMulOfMany(t *testing.T) {
	thousand := slices.Repeat([]nat.N{{1}}, 1000)
	for _, c := range []struct {
		l    []nat.N
		want result
	}{
		{nil, fine(nat.N{1})}, {[]nat.N{{}}, fine(nat.N{})}, {[]nat.N{{7, 0, 5}}, fine(nat.N{7, 0, 5})}, {[]nat.N{most}, fine(most)}, {thousand, fine(nat.N{1})},
		{[]nat.N{{2}, {3}, {5}, {7}}, fine(nat.N{210})}, {[]nat.N{{0, 1}, {0, 1}, {0, 1}}, fine(nat.N{0, 0, 0, 1})}, {[]nat.N{{0, 1}, {0, 1}, {0, 1}, {0, 1}}, failed(api.ErrLong)},
		{[]nat.N{most, most, {}}, fine(nat.N{})}, {[]nat.N{{}, most, most}, fine(nat.N{})}, {[]nat.N{most, {}, most}, fine(nat.N{})},
		{[]nat.N{most, {2}, {1}}, failed(api.ErrLong)}, {[]nat.N{{1}, {1 << 31}, {0, 1 << 31}, {4}}, fine(nat.N{0, 0, 0, 1})}, {[]nat.N{{0, 0, 0, 1 << 31}, {1}, {2}}, failed(api.ErrLong)},
	} {
		before := slices.Clone(c.l)
		if r := got(nat.Mul(c.l...)); r != c.want {
			t.Errorf("Mul(%v) is %v, not %v", c.l, r, c.want)
		}
		if !slices.Equal(c.l, before) {
			t.Errorf("Mul made %v of its arguments %v", c.l, before)
		}
	}
	if r := got(nat.Mul()); r != fine(nat.N{1}) {
		t.Errorf("Mul() is %v", r)
	}
}

// P2.3
func TestDiv(t *testing.T) {
	if q, rest, e := nat.Div(nat.N{0, 0, 0, 1}, nat.N{10}); nat.Text(q) != "7922816251426433759354395033" || rest != (nat.N{6}) || e != api.OK {
		t.Errorf("2^96 divided by 10 is %v, %v, %d", q, rest, e)
	}
	for _, a := range []nat.N{{}, {1}, {0, 0, 1}, most} {
		if q, rest, e := nat.Div(a, nat.N{}); q != (nat.N{}) || rest != (nat.N{}) || e != api.ErrArg {
			t.Errorf("Div(%v, 0) is %v, %v, %d", a, q, rest, e)
		}
	}
}

// P2.3, P2.6
func TestDivAndGcdAreExact(t *testing.T) {
	l := samples()
	for _, a := range l {
		for _, b := range l {
			x, y := exact(a), exact(b)
			if g := nat.Gcd(a, b); fine(g) != limited(new(big.Int).GCD(nil, nil, x, y)) {
				t.Fatalf("Gcd(%v, %v) is %v", a, b, g)
			}
			q, rest, e := nat.Div(a, b)
			if b == (nat.N{}) {
				if q != (nat.N{}) || rest != (nat.N{}) || e != api.ErrArg {
					t.Fatalf("Div(%v, 0) is %v, %v, %d", a, q, rest, e)
				}
				continue
			}
			wantQ, wantRest := new(big.Int).QuoRem(x, y, new(big.Int))
			if got(q, e) != limited(wantQ) || got(rest, e) != limited(wantRest) {
				t.Fatalf("Div(%v, %v) is %v, %v, %d", a, b, q, rest, e)
			}
			product, _ := nat.Mul(q, b)
			if whole := got(nat.Add(product, rest)); whole != fine(a) || nat.Cmp(rest, b) >= 0 {
				t.Fatalf("Div(%v, %v) is %v, %v, and together %v", a, b, q, rest, whole)
			}
		}
	}
}

// P2.4
func TestChoose(t *testing.T) {
	for _, c := range []struct {
		n, k int
		want string
		e    api.Errno
	}{
		{52, 13, "635013559600", api.OK}, {5, 6, "0", api.OK}, {5, -1, "0", api.OK}, {5, math.MinInt64, "0", api.OK}, {5, math.MaxInt64, "0", api.OK}, {0, 0, "1", api.OK}, {0, 1, "0", api.OK}, {0, -1, "0", api.OK},
		{128, 64, "23951146041928082866135587776380551750", api.OK}, {128, 129, "0", api.OK},
		{129, 1, "0", api.ErrMany}, {129, -1, "0", api.ErrMany}, {129, 130, "0", api.ErrMany}, {math.MaxInt64, 0, "0", api.ErrMany},
		{-1, 0, "0", api.ErrArg}, {-1, -1, "0", api.ErrArg}, {-1, 1, "0", api.ErrArg}, {math.MinInt64, 1, "0", api.ErrArg},
	} {
		if n, e := nat.Choose(c.n, c.k); nat.Text(n) != c.want || e != c.e {
			t.Errorf("Choose(%d, %d) is %s, %d", c.n, c.k, nat.Text(n), e)
		}
	}
	if nat.MaxChoose != 128 {
		t.Errorf("MaxChoose is %d", nat.MaxChoose)
	}
	for n := range nat.MaxChoose + 1 {
		for k := range n + 1 {
			if r := got(nat.Choose(n, k)); r != limited(new(big.Int).Binomial(int64(n), int64(k))) {
				t.Fatalf("Choose(%d, %d) is %v", n, k, r)
			}
		}
	}
}

// P2.6
func TestChoicesAddUp(t *testing.T) {
	for n := range nat.MaxChoose {
		var total nat.N
		for k := range n + 1 {
			choices, _ := nat.Choose(n, k)
			if n > 0 {
				with, _ := nat.Choose(n-1, k-1)
				without, _ := nat.Choose(n-1, k)
				if r := got(nat.Add(with, without)); r != fine(choices) {
					t.Fatalf("Choose(%d, %d) is %v, and those of one thing less add up to %v", n, k, choices, r)
				}
			}
			total, _ = nat.Add(total, choices)
		}
		if fine(total) != limited(new(big.Int).Lsh(big.NewInt(1), uint(n))) {
			t.Fatalf("the choices of %d things add up to %v", n, total)
		}
	}
}

// P2.5, P2.6
func TestTextAndRead(t *testing.T) {
	for s, a := range map[string]nat.N{
		"0": {}, "1": {1}, "9": {9}, "10": {10}, "4294967295": {full}, "4294967296": {0, 1}, "18446744073709551616": {0, 0, 1}, "340282366920938463463374607431768211455": most,
	} {
		if text := nat.Text(a); text != s {
			t.Errorf("Text(%v) is %q, not %q", a, text, s)
		}
		if r := got(nat.Read(s)); r != fine(a) {
			t.Errorf("Read(%q) is %v", s, r)
		}
	}
	for _, a := range samples() {
		text := nat.Text(a)
		if text != exact(a).String() {
			t.Errorf("Text(%v) is %q", a, text)
		}
		if r := got(nat.Read(text)); r != fine(a) {
			t.Errorf("Read(%q) is %v", text, r)
		}
	}
}

// P2.5
func TestReadOfNoNumber(t *testing.T) {
	if nat.ErrText != 20 || nat.ErrLess != 21 {
		t.Errorf("the errors are %d and %d", nat.ErrText, nat.ErrLess)
	}
	long := strings.Repeat("9", 1000)
	for _, s := range []string{
		"", "01", "00", "000", "-", "+", "-1", "+1", "-0", "+0", " 1", "1 ", "1 2", "1\n", "1\x00", "\x00", "a", "1a", "a1", "1/2", "1:2", "/", ":", "1.5", "1e3", "0x10", "0b1", "1_000", "1,000", "\u0661", "\xff", "\xb1", "1\x80",
		long + "x", "x" + long, "0" + long, "0340282366920938463463374607431768211456", "340282366920938463463374607431768211456-",
	} {
		if r := got(nat.Read(s)); r != failed(nat.ErrText) {
			t.Errorf("Read(%q) is %v", s, r)
		}
	}
	for _, s := range []string{
		"340282366920938463463374607431768211456", "340282366920938463463374607431768211459", "340282366920938463463374607431768211460", "3402823669209384634633746074317682114550", "999999999999999999999999999999999999999",
		// 2^128 + 5 and 10 * 2^128, which come down to small numbers if what is too long is dropped
		"340282366920938463463374607431768211461", "3402823669209384634633746074317682114560", "1" + strings.Repeat("0", 39), "1" + strings.Repeat("0", 200), long,
	} {
		if r := got(nat.Read(s)); r != failed(api.ErrLong) {
			t.Errorf("Read(%q) is %v", s, r)
		}
	}
}
