package seed_test

import (
	"math"
	"math/big"
	"slices"
	"testing"

	"finesse/api"
	"finesse/nat"
	"finesse/seed"
)

const prime = 2147483647

// wrong are states that are not right.
var wrong = []seed.State{0, -1, -2, prime, prime + 1, 2 * prime, 1 << 32, 1<<32 + 1, -prime, math.MaxInt64, math.MinInt64}

// states are the first and the last ones, those around halves and powers of 2, and some without a pattern.
func states() []seed.State {
	l := []seed.State{1, 2, 3, 10, 44488, 44489, 48271, seed.Values / 2, seed.Values/2 + 1, 1 << 16, 1 << 30, seed.Values - 1, seed.Values}
	s := seed.State(12345)
	for range 50 {
		s = after(s)
		l = append(l, s)
	}
	return l
}

// exact is a number without limits.
func exact(n int) *big.Int { return big.NewInt(int64(n)) }

// after is the next state, calculated without limits.
func after(s seed.State) seed.State {
	next := new(big.Int).Mul(exact(int(s)), exact(48271))
	return seed.State(next.Mod(next, exact(prime)).Int64())
}

// before is the state whose next one is s.
func before(s seed.State) seed.State {
	inverse := new(big.Int).ModInverse(exact(48271), exact(prime))
	inverse.Mul(inverse, exact(int(s)))
	return seed.State(inverse.Mod(inverse, exact(prime)).Int64())
}

// drawn draws below n as the chapter's terms say it, for a number of any size, with numbers without limits.
func drawn(s seed.State, n *big.Int) (seed.State, *big.Int) {
	k, whole := 1, exact(seed.Values)
	for whole.Cmp(n) < 0 {
		k, whole = k+1, new(big.Int).Mul(whole, exact(seed.Values))
	}
	limit := new(big.Int).Div(whole, n)
	limit.Mul(limit, n)
	for {
		number := new(big.Int)
		for i := range k {
			s = after(s)
			unit := new(big.Int).Exp(exact(seed.Values), exact(i), nil)
			number.Add(number, unit.Mul(unit, exact(int(s)-1)))
		}
		if number.Cmp(limit) < 0 {
			return s, number.Mod(number, n)
		}
	}
}

// read is the number with a text.
func read(t *testing.T, s string) nat.N {
	t.Helper()
	n, e := nat.Read(s)
	if e != api.OK {
		t.Fatalf("Read(%q) is %d", s, e)
	}
	return n
}

// power is Values to the power of k, plus more.
func power(t *testing.T, k, more int) nat.N {
	t.Helper()
	p := new(big.Int).Exp(exact(seed.Values), exact(k), nil)
	return read(t, p.Add(p, exact(more)).String())
}

// P3.1
func TestOf(t *testing.T) {
	for n, want := range map[int]seed.State{
		0: 1, 1: 2, -1: 2147483646, 2147483644: 2147483645, 2147483645: 2147483646, 2147483646: 1, 2147483647: 2, 4294967291: 2147483646, 4294967292: 1,
		-2147483645: 2, -2147483646: 1, -2147483647: 2147483646, math.MinInt32: 2147483645, 1 << 32: 5, 2026: 2027,
	} {
		if s := seed.Of(n); s != want {
			t.Errorf("Of(%d) is %d, not %d", n, s, want)
		}
	}
	for _, n := range []int{math.MaxInt64, math.MaxInt64 - 1, math.MinInt64, math.MinInt64 + 1, 1 << 62, -1 << 62, 1 << 40, -1 << 40, 987654321987654321} {
		want := new(big.Int).Mod(exact(n), exact(seed.Values)).Int64() + 1
		if s := seed.Of(n); int64(s) != want {
			t.Errorf("Of(%d) is %d, not %d", n, s, want)
		}
	}
}

// P3.1
func TestRight(t *testing.T) {
	if seed.Values != 2147483646 || seed.MaxList != 10000 {
		t.Errorf("the constants are %d and %d", seed.Values, seed.MaxList)
	}
	for _, s := range states() {
		if !seed.Right(s) {
			t.Errorf("%d is not right", s)
		}
	}
	for _, s := range wrong {
		if seed.Right(s) {
			t.Errorf("%d is right", s)
		}
	}
}

// P3.1
func TestNext(t *testing.T) {
	for s, want := range map[seed.State]seed.State{1: 48271, 48271: 182605794, 2: 96542, 2147483646: 2147435376, 44488: 2147480248} {
		if next, value, e := seed.Next(s); next != want || value != int(want)-1 || e != api.OK {
			t.Errorf("Next(%d) is %d, %d, %d", s, next, value, e)
		}
	}
	for _, s := range states() {
		if next, value, e := seed.Next(s); next != after(s) || value != int(next)-1 || value < 0 || value >= seed.Values || e != api.OK {
			t.Errorf("Next(%d) is %d, %d, %d", s, next, value, e)
		}
	}
}

// P3.1 to P3.4
func TestStatesThatAreNotRight(t *testing.T) {
	for _, s := range wrong {
		if next, value, e := seed.Next(s); next != 0 || value != 0 || e != api.ErrArg {
			t.Errorf("Next(%d) is %d, %d, %d", s, next, value, e)
		}
		for _, k := range []int{-1, 0, 1, seed.Values} {
			if next, e := seed.Jump(s, k); next != 0 || e != api.ErrArg {
				t.Errorf("Jump(%d, %d) is %d, %d", s, k, next, e)
			}
		}
		for _, n := range []int{0, 1, 10} {
			if next, value, e := seed.Below(s, n); next != 0 || value != 0 || e != api.ErrArg {
				t.Errorf("Below(%d, %d) is %d, %d, %d", s, n, next, value, e)
			}
			if next, value, e := seed.BelowNat(s, nat.N{uint32(n)}); next != 0 || value != (nat.N{}) || e != api.ErrArg {
				t.Errorf("BelowNat(%d, %d) is %d, %v, %d", s, n, next, value, e)
			}
		}
		for _, length := range []int{0, 1, 2, seed.MaxList, seed.MaxList + 1} {
			if next, l, e := seed.Shuffle(s, make([]int, length)); next != 0 || len(l) != 0 || e != api.ErrArg {
				t.Errorf("Shuffle of %d elements from %d is %d, %v, %d", length, s, next, l, e)
			}
		}
	}
}

// P3.2
func TestJump(t *testing.T) {
	for _, c := range []struct {
		s    seed.State
		k    int
		want seed.State
	}{
		{1, 0, 1}, {1, 1, 48271}, {1, 2, 182605794}, {48271, -1, 1}, {182605794, -2, 1}, {182605794, -1, 48271}, {7, seed.Values, 7}, {7, -seed.Values, 7}, {1, seed.Values + 2, 182605794}, {1, 2 - seed.Values, 182605794},
		{1, seed.Values / 2, seed.Values}, {1, -seed.Values / 2, seed.Values}, {seed.Values, seed.Values / 2, 1}, {1, seed.Values - 1, before(1)}, {1, 10000, 399268537},
	} {
		if s, e := seed.Jump(c.s, c.k); s != c.want || e != api.OK {
			t.Errorf("Jump(%d, %d) is %d, %d, not %d", c.s, c.k, s, e, c.want)
		}
	}
	for _, s := range states() {
		forth, back := s, s
		for k := range 300 {
			if to, e := seed.Jump(s, k); to != forth || e != api.OK {
				t.Fatalf("Jump(%d, %d) is %d, %d, not %d", s, k, to, e, forth)
			}
			if to, e := seed.Jump(s, -k); to != back || e != api.OK {
				t.Fatalf("Jump(%d, %d) is %d, %d, not %d", s, -k, to, e, back)
			}
			forth, back = after(forth), before(back)
		}
	}
}

// P3.2
func TestLongJumps(t *testing.T) {
	for _, s := range states() {
		for _, k := range []int{math.MaxInt64, math.MaxInt64 - 1, math.MinInt64, math.MinInt64 + 1, 1 << 62, -1 << 62, 1<<40 + 7, -1<<40 - 7, 1 << 31, -1 << 31, 987654321, -987654321} {
			steps := new(big.Int).Mod(exact(k), exact(seed.Values))
			want := new(big.Int).Exp(exact(48271), steps, exact(prime))
			want.Mul(want, exact(int(s))).Mod(want, exact(prime))
			if to, e := seed.Jump(s, k); int64(to) != want.Int64() || e != api.OK {
				t.Errorf("Jump(%d, %d) is %d, %d, not %d", s, k, to, e, want)
			}
		}
	}
}

// P3.5
func TestTheCycleHasAllValues(t *testing.T) {
	rest := seed.Values
	for _, p := range []int{2, 3, 3, 7, 11, 31, 151, 331} {
		rest /= p
		if to, e := seed.Jump(1, seed.Values/p); to == 1 || e != api.OK {
			t.Errorf("after %d steps 1 is reached again", seed.Values/p)
		}
	}
	if rest != 1 {
		t.Errorf("the divisors leave %d", rest)
	}
	for _, s := range states() {
		if to, e := seed.Jump(s, seed.Values); to != s || e != api.OK {
			t.Errorf("after all steps %d is reached from %d", to, s)
		}
	}
}

// P3.5
func TestJumpsAddUp(t *testing.T) {
	steps := []int{0, 1, -1, 5, -7, 1 << 20, -1 << 20, seed.Values - 1, seed.Values, 1 << 50, -1 << 61, 1 << 61}
	for _, s := range states() {
		for _, k := range steps {
			for _, m := range steps {
				half, _ := seed.Jump(s, k)
				whole, _ := seed.Jump(s, k+m)
				if to, e := seed.Jump(half, m); to != whole || e != api.OK {
					t.Fatalf("%d and %d steps from %d are %d, both %d", k, m, s, to, whole)
				}
			}
		}
	}
}

// P3.5
func TestEachValueIsThatOfOneState(t *testing.T) {
	for _, value := range []int{0, 1, 2, 48270, 1 << 30, seed.Values / 2, seed.Values - 2, seed.Values - 1} {
		s, e := seed.Jump(seed.State(value+1), -1)
		if e != api.OK || s != before(seed.State(value+1)) {
			t.Errorf("the state before that of the value %d is %d, %d", value, s, e)
		}
		if next, got, e := seed.Next(s); next != seed.State(value+1) || got != value || e != api.OK {
			t.Errorf("Next(%d) is %d, %d, %d", s, next, got, e)
		}
	}
}

// P3.3
func TestBelow(t *testing.T) {
	for _, c := range []struct {
		s    seed.State
		n    int
		next seed.State
		want int
		e    api.Errno
	}{
		{1, 10, 48271, 0, api.OK}, {48271, 10, 182605794, 3, api.OK}, {1, 7, 48271, 5, api.OK}, {1, 1, 48271, 0, api.OK}, {1, seed.Values, 48271, 48270, api.OK},
		{2147483646, 1000000000, 1964877853, 964877852, api.OK},
		{before(seed.Values), seed.Values, seed.Values, seed.Values - 1, api.OK}, {before(1), seed.Values, 1, 0, api.OK}, {before(seed.Values), 2, seed.Values, 1, api.OK}, {before(seed.Values), 1, seed.Values, 0, api.OK},
		{before(seed.Values), seed.Values - 1, after(seed.Values), int(after(seed.Values)) - 1, api.OK}, {before(seed.Values - 1), seed.Values - 1, seed.Values - 1, seed.Values - 2, api.OK},
		{1, 0, 0, 0, api.ErrArg}, {1, -1, 0, 0, api.ErrArg}, {1, -10, 0, 0, api.ErrArg}, {1, seed.Values + 1, 0, 0, api.ErrArg}, {1, 1 << 32, 0, 0, api.ErrArg}, {1, math.MaxInt64, 0, 0, api.ErrArg}, {1, math.MinInt64, 0, 0, api.ErrArg},
	} {
		if s, n, e := seed.Below(c.s, c.n); s != c.next || n != c.want || e != c.e {
			t.Errorf("Below(%d, %d) is %d, %d, %d, not %d, %d, %d", c.s, c.n, s, n, e, c.next, c.want, c.e)
		}
	}
}

// limits are numbers with a great part of values that are too great, and with none.
func limits() []int {
	return []int{1, 2, 3, 4, 5, 7, 10, 52, 1000, 1 << 16, 1<<16 + 1, 1 << 30, 1<<30 - 1, 1<<30 + 1, seed.Values / 3, seed.Values/3 + 1, seed.Values/2 - 1, seed.Values / 2, seed.Values/2 + 1, seed.Values - 2, seed.Values - 1, seed.Values}
}

// P3.3
func TestBelowIsAsTheTermsSay(t *testing.T) {
	for _, s := range states() {
		for _, n := range limits() {
			next, want := drawn(s, exact(n))
			if to, got, e := seed.Below(s, n); to != next || int64(got) != want.Int64() || got < 0 || got >= n || e != api.OK {
				t.Errorf("Below(%d, %d) is %d, %d, %d, not %d, %d", s, n, to, got, e, next, want)
			}
			if to, got, e := seed.BelowNat(s, nat.N{uint32(n)}); to != next || nat.Text(got) != want.String() || e != api.OK {
				t.Errorf("BelowNat(%d, %d) is %d, %v, %d, not %d, %d", s, n, to, got, e, next, want)
			}
		}
	}
}

// P3.3: a value is too great from the greatest multiple on.
func TestTheGreatestMultiple(t *testing.T) {
	for _, n := range []int{3*48271 + 1, 1 << 20, 1000000000, seed.Values/2 + 1, seed.Values - 1} {
		limit := seed.Values / n * n
		last := before(seed.State(limit))
		if to, got, e := seed.Below(last, n); to != seed.State(limit) || got != n-1 || e != api.OK {
			t.Errorf("Below(%d, %d) is %d, %d, %d", last, n, to, got, e)
		}
		first := before(seed.State(limit + 1))
		next, want := drawn(seed.State(limit+1), exact(n))
		if to, got, e := seed.Below(first, n); to != next || int64(got) != want.Int64() || e != api.OK {
			t.Errorf("Below(%d, %d) is %d, %d, %d", first, n, to, got, e)
		}
	}
}

// P3.3
func TestBelowNat(t *testing.T) {
	most := nat.N{0, 0, 0, 1 << 24}
	for _, n := range []nat.N{{}, {1, 0, 0, 1 << 24}, {0, 1, 0, 1 << 24}, {0, 0, 0, 1<<24 + 1}, {0, 0, 0, 1 << 31}, {math.MaxUint32, math.MaxUint32, math.MaxUint32, math.MaxUint32}} {
		if s, got, e := seed.BelowNat(1, n); s != 0 || got != (nat.N{}) || e != api.ErrArg {
			t.Errorf("BelowNat(1, %v) is %d, %v, %d", n, s, got, e)
		}
	}
	for _, c := range []struct {
		n      nat.N
		values int
		want   string
	}{
		{nat.N{1}, 1, "0"}, {nat.N{10}, 1, "0"}, {nat.N{seed.Values}, 1, "48270"},
		{nat.N{seed.Values + 1}, 2, ""}, {power(t, 2, 0), 2, "392142954132409548"}, {power(t, 2, 1), 3, ""}, {power(t, 3, 0), 3, ""}, {power(t, 3, 1), 4, ""}, {most, 4, ""},
	} {
		whole, _ := new(big.Int).SetString(nat.Text(c.n), 10)
		next, want := drawn(1, whole)
		if c.want != "" && c.want != want.String() {
			t.Errorf("below %d comes %d", whole, want)
		}
		s, got, e := seed.BelowNat(1, c.n)
		if to, _ := seed.Jump(1, c.values); s != to || s != next || nat.Text(got) != want.String() || e != api.OK {
			t.Errorf("BelowNat(1, %d) is %d, %s, %d, not %d, %d", whole, s, nat.Text(got), e, next, want)
		}
	}
}

// P3.3
func TestBelowNatIsAsTheTermsSay(t *testing.T) {
	numbers := []nat.N{{0, 1}, {0, 0, 1}, {1, 0, 1}, {0, 0, 0, 1}, {5, 0, 0, 1}, {0, 0, 0, 1<<24 - 1}, {math.MaxUint32, math.MaxUint32, math.MaxUint32, 1<<24 - 1}, {0, 0, 0, 1 << 24}, read(t, "635013559600"), read(t, "53644737765488792839237440000")}
	for k := range 3 {
		half, _, _ := nat.Div(power(t, k+1, 0), nat.N{2})
		more, _ := nat.Add(half, nat.N{1})
		numbers = append(numbers, half, more, power(t, k+1, -1), power(t, k+1, 0), power(t, k+1, 1))
	}
	for _, s := range states() {
		for _, n := range numbers {
			whole, _ := new(big.Int).SetString(nat.Text(n), 10)
			next, want := drawn(s, whole)
			if to, got, e := seed.BelowNat(s, n); to != next || nat.Text(got) != want.String() || nat.Cmp(got, n) >= 0 || e != api.OK {
				t.Errorf("BelowNat(%d, %d) is %d, %s, %d, not %d, %d", s, whole, to, nat.Text(got), e, next, want)
			}
		}
	}
}

// P3.3: the greatest multiple of a number above half of Values^k is the number itself, so the number that comes first is too great below itself, and comes below the next one.
func TestTheGreatestMultipleOfManyBits(t *testing.T) {
	for k := 1; k <= 3; k++ {
		tried := 0
		for _, s := range states() {
			next, first, _ := seed.BelowNat(s, power(t, k, 0))
			if twice, _ := nat.Add(first, first); nat.Cmp(twice, power(t, k, 0)) <= 0 || nat.Cmp(first, power(t, k, -1)) >= 0 {
				continue
			}
			tried++
			more, _ := nat.Add(first, nat.N{1})
			if to, got, e := seed.BelowNat(s, more); to != next || got != first || e != api.OK {
				t.Errorf("BelowNat(%d, %s) is %d, %s, %d", s, nat.Text(more), to, nat.Text(got), e)
			}
			wantNext, want, _ := seed.BelowNat(next, first)
			if to, got, e := seed.BelowNat(s, first); to != wantNext || got != want || e != api.OK {
				t.Errorf("BelowNat(%d, %s) is %d, %s, %d", s, nat.Text(first), to, nat.Text(got), e)
			}
		}
		if tried < 10 {
			t.Errorf("only %d states were tried with %d values", tried, k)
		}
	}
}

// P3.4
func TestShuffle(t *testing.T) {
	for _, c := range []struct {
		s    seed.State
		l    []int
		next seed.State
		want []int
	}{
		{1, nil, 1, nil}, {1, []int{}, 1, nil}, {5, []int{5}, 5, []int{5}}, {1, []int{5, 6}, 48271, []int{6, 5}}, {48271, []int{5, 6}, 182605794, []int{5, 6}}, {1, []int{7, 8, 9}, 182605794, []int{9, 8, 7}}, {1, []int{4, 4, 4}, 182605794, []int{4, 4, 4}},
		{1, []int{math.MaxInt64, -1, math.MinInt64}, 182605794, []int{math.MinInt64, -1, math.MaxInt64}},
	} {
		if s, l, e := seed.Shuffle(c.s, c.l); s != c.next || !slices.Equal(l, c.want) || e != api.OK {
			t.Errorf("Shuffle(%d, %v) is %d, %v, %d, not %d, %v", c.s, c.l, s, l, e, c.next, c.want)
		}
	}
	for _, length := range []int{seed.MaxList + 1, seed.MaxList + 2, 5 * seed.MaxList} {
		if s, l, e := seed.Shuffle(1, make([]int, length)); s != 0 || len(l) != 0 || e != api.ErrMany {
			t.Errorf("Shuffle of %d elements is %d, %d elements, %d", length, s, len(l), e)
		}
	}
}

// P3.4, P3.5
func TestShuffleIsAsThePromiseSays(t *testing.T) {
	for _, length := range []int{2, 3, 4, 13, 52, 1000, seed.MaxList} {
		for _, s := range []seed.State{1, 2, 2027, seed.Values} {
			own := make([]int, length)
			for i := range own {
				own[i] = i / 2
			}
			want, next := slices.Clone(own), s
			for i := length - 1; i >= 1; i-- {
				var j *big.Int
				next, j = drawn(next, exact(i+1))
				want[i], want[j.Int64()] = want[j.Int64()], want[i]
			}
			for range 2 {
				to, l, e := seed.Shuffle(s, own)
				if to != next || !slices.Equal(l, want) || e != api.OK {
					t.Fatalf("Shuffle of %d elements from %d is %d, %v, %d", length, s, to, l, e)
				}
				slices.Sort(l)
				if !slices.Equal(l, own) {
					t.Fatalf("Shuffle of %d elements from %d has others: %v", length, s, l)
				}
			}
		}
	}
}

// P3.4
func TestShuffleLeavesItsArgument(t *testing.T) {
	whole := []int{1, 2, 3, 4, 5, 6, 7, 8, 9, 10}
	kept := slices.Clone(whole)
	for length := range len(whole) + 1 {
		_, l, e := seed.Shuffle(1, whole[:length])
		if e != api.OK || len(l) != length {
			t.Fatalf("Shuffle of %d elements is %v, %d", length, l, e)
		}
		l = l[:cap(l)]
		for i := range l {
			l[i] = -1
		}
		if !slices.Equal(whole, kept) {
			t.Fatalf("Shuffle of %d elements made %v of its argument", length, whole)
		}
	}
}

// P3.5: over a cycle of values each order comes nearly as often.
func TestAllOrdersCome(t *testing.T) {
	const rounds = 6000
	often := map[[3]int]int{}
	s := seed.Of(1)
	for range rounds {
		var l []int
		s, l, _ = seed.Shuffle(s, []int{0, 1, 2})
		often[[3]int(l)]++
	}
	if len(often) != 6 {
		t.Errorf("there are %d orders", len(often))
	}
	for order, n := range often {
		if n < rounds/6*9/10 || n > rounds/6*11/10 {
			t.Errorf("%v comes %d times", order, n)
		}
	}
}
