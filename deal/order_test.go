package deal_test

import (
	"cmp"
	"math/big"
	"math/bits"
	"math/rand"
	"slices"
	"testing"

	"finesse/api"
	"finesse/deal"
	"finesse/nat"
	"finesse/seed"
)

// number returns a number of package nat.
func number(t *testing.T, x *big.Int) nat.N {
	t.Helper()
	n, e := nat.Read(x.String())
	if e != api.OK {
		t.Fatalf("%s is no number", x)
	}
	return n
}

// large returns a number of package big.
func large(n nat.N) *big.Int {
	x, _ := new(big.Int).SetString(nat.Text(n), 10)
	return x
}

// shares returns how many ways there are to give each of the lists of places its number of things.
func shares(lacks [4]int) *big.Int {
	things := int64(lacks[0] + lacks[1] + lacks[2] + lacks[3])
	ways := new(big.Int).MulRange(1, things)
	for _, n := range lacks {
		ways.Div(ways, new(big.Int).MulRange(1, int64(n)))
	}
	return ways
}

func lacks(p api.Deal) [4]int {
	var l [4]int
	for seat, hand := range p {
		l[seat] = 13 - bits.OnesCount64(hand)
	}
	return l
}

// compare compares deals in the order of completions.
func compare(a, b api.Deal) int {
	return cmp.Or(cmp.Compare(a[0], b[0]), cmp.Compare(a[1], b[1]), cmp.Compare(a[2], b[2]))
}

// completions returns all completions of a partial deal, in their order.
func completions(p api.Deal) []api.Deal {
	l := []api.Deal{p}
	for c := range 52 {
		if (p[0]|p[1]|p[2]|p[3])>>c&1 == 1 {
			continue
		}
		var more []api.Deal
		for _, d := range l {
			for seat := range d {
				if bits.OnesCount64(d[seat]) < 13 {
					with := d
					with[seat] |= 1 << c
					more = append(more, with)
				}
			}
		}
		l = more
	}
	slices.SortFunc(l, compare)
	return l
}

// below returns a random number from 0 to n - 1.
func below(draw *rand.Rand, n nat.N) *big.Int { return new(big.Int).Rand(draw, large(n)) }

// P6.2
func TestWays(t *testing.T) {
	for _, p := range partials() {
		n, e := deal.Ways(p)
		if want := shares(lacks(p)); e != api.OK || large(n).Cmp(want) != 0 {
			t.Errorf("%x has %s completions, %d, and not %s", p, nat.Text(n), e, want)
		}
	}
	for _, d := range notPartial() {
		if n, e := deal.Ways(d); n != (nat.N{}) || e != deal.ErrDeal {
			t.Errorf("%x has %s completions, %d", d, nat.Text(n), e)
		}
	}
	for text, p := range map[string]api.Deal{
		"53644737765488792839237440000": {},
		"1":                             suits,
		"2":                             without(suits, 1<<0|1<<13),
		"10400600":                      {0, 0, clubs << 26, clubs << 39},
		"84478098072866400":             {0, 0, 0, clubs << 39},
		"24":                            without(suits, 1|1<<13|1<<26|1<<39),
	} {
		if n, e := deal.Ways(p); nat.Text(n) != text || e != api.OK {
			t.Errorf("%x has %s completions, %d, and not %s", p, nat.Text(n), e, text)
		}
	}
}

// P6.2: all numbers of cards that the hands may lack.
func TestWaysOfAllSizes(t *testing.T) {
	for i := range 14 * 14 * 14 * 14 {
		sizes := [4]int{i % 14, i / 14 % 14, i / 14 / 14 % 14, i / 14 / 14 / 14}
		if testing.Short() && i%11 != 0 {
			continue
		}
		var p api.Deal
		for seat, n := range sizes {
			p[seat] = suits[seat] &^ ((1<<n - 1) << (13 * seat))
		}
		if n, e := deal.Ways(p); e != api.OK || large(n).Cmp(shares(sizes)) != 0 {
			t.Fatalf("hands that lack %v have %s completions, %d", sizes, nat.Text(n), e)
		}
	}
}

// smallPartials returns partial deals with few cards left.
func smallPartials() []api.Deal {
	draw := rand.New(rand.NewSource(62))
	l := []api.Deal{suits, without(suits, 1|1<<13), without(suits, 1|2|1<<26), without(suits, 3|3<<13|1<<30), without(suits, 1<<12|1<<25|1<<38|1<<51)}
	for n := range 8 {
		for range 5 {
			l = append(l, without(dealt(draw), randomCards(draw, n)))
		}
	}
	// Two hands lack all cards that are left.
	for one := range 4 {
		for two := range one {
			d := dealt(draw)
			for _, seat := range []int{one, two} {
				for range 4 {
					d[seat] &^= 1 << (bits.Len64(d[seat]) - 1)
				}
			}
			l = append(l, d)
		}
	}
	// One hand lacks them.
	for seat := range 4 {
		d := dealt(draw)
		d[seat] = 0
		l = append(l, d)
	}
	return l
}

// P6.3: all completions of partial deals with few cards left.
func TestAllCompletions(t *testing.T) {
	for _, p := range smallPartials() {
		l := completions(p)
		if ways, e := deal.Ways(p); e != api.OK || ways != (nat.N{uint32(len(l))}) {
			t.Fatalf("%x has %s completions, and not %d", p, nat.Text(ways), len(l))
		}
		for i, d := range l {
			n := nat.N{uint32(i)}
			if got, e := deal.Complete(p, n); got != d || e != api.OK {
				t.Fatalf("Complete(%x, %d) is %x, %d, not %x", p, i, got, e, d)
			}
			if got, e := deal.Index(p, d); got != n || e != api.OK {
				t.Fatalf("Index(%x, %x) is %s, %d, not %d", p, d, nat.Text(got), e, i)
			}
		}
	}
}

// P6.3
func TestCompletionsOfNoCards(t *testing.T) {
	ways, _ := deal.Ways(api.Deal{})
	others := shares([4]int{0, 13, 13, 13})
	count := func(x *big.Int, more int64) nat.N { return number(t, new(big.Int).Add(x, big.NewInt(more))) }
	for _, c := range []struct {
		n nat.N
		d api.Deal
	}{
		{nat.N{}, suits},
		{nat.N{1}, api.Deal{clubs, clubs << 13, clubs<<26&^(1<<38) | 1<<39, clubs<<39&^(1<<39) | 1<<38}},
		{count(large(ways), -1), api.Deal{clubs << 39, clubs << 26, clubs << 13, clubs}},
		{count(large(ways), -2), api.Deal{clubs << 39, clubs << 26, clubs<<13&^(1<<13) | 1<<12, clubs&^(1<<12) | 1<<13}},
		// The last one in which North has the clubs, and the first one after it.
		{count(others, -1), api.Deal{clubs, clubs << 39, clubs << 26, clubs << 13}},
		{count(others, 0), api.Deal{clubs&^(1<<12) | 1<<13, clubs<<13&^(1<<13) | 1<<12, clubs << 26, clubs << 39}},
		{count(shares([4]int{0, 0, 13, 13}), -1), api.Deal{clubs, clubs << 13, clubs << 39, clubs << 26}},
		{count(shares([4]int{0, 0, 13, 13}), 0), api.Deal{clubs, clubs<<13&^(1<<25) | 1<<26, clubs<<26&^(1<<26) | 1<<25, clubs << 39}},
	} {
		if d, e := deal.Complete(api.Deal{}, c.n); d != c.d || e != api.OK {
			t.Errorf("the completion %s is %x, %d, not %x", nat.Text(c.n), d, e, c.d)
		}
		if n, e := deal.Index(api.Deal{}, c.d); n != c.n || e != api.OK {
			t.Errorf("the index of %x is %s, %d, not %s", c.d, nat.Text(n), e, nat.Text(c.n))
		}
	}
}

// P6.3
func TestCompletionsThatThereAreNot(t *testing.T) {
	for _, p := range append(partials(), smallPartials()...) {
		ways, _ := deal.Ways(p)
		for _, n := range []nat.N{ways, number(t, new(big.Int).Add(large(ways), big.NewInt(1))), {0, 0, 0, 1}, {0, 0, 0, 1 << 31}, {1<<32 - 1, 1<<32 - 1, 1<<32 - 1, 1<<32 - 1}} {
			if d, e := deal.Complete(p, n); d != (api.Deal{}) || e != api.ErrNone {
				t.Errorf("Complete(%x, %s) is %x, %d", p, nat.Text(n), d, e)
			}
		}
	}
	for _, d := range notPartial() {
		for _, n := range []nat.N{{}, {1}, {1<<32 - 1, 1<<32 - 1, 1<<32 - 1, 1<<32 - 1}} {
			if got, e := deal.Complete(d, n); got != (api.Deal{}) || e != deal.ErrDeal {
				t.Errorf("Complete(%x, %s) is %x, %d", d, nat.Text(n), got, e)
			}
		}
	}
}

// P6.3
func TestIndexErrors(t *testing.T) {
	draw := rand.New(rand.NewSource(63))
	check := func(p, d api.Deal, want api.Errno) {
		t.Helper()
		if n, e := deal.Index(p, d); n != (nat.N{}) || e != want {
			t.Errorf("Index(%x, %x) is %s, %d, not the error %d", p, d, nat.Text(n), e, want)
		}
	}
	for _, d := range notPartial() {
		check(d, suits, deal.ErrDeal)
		check(suits, d, deal.ErrDeal)
		check(api.Deal{}, d, deal.ErrDeal)
		check(d, d, deal.ErrDeal)
		check(d, api.Deal{}, deal.ErrDeal)
	}
	for range 100 {
		d := dealt(draw)
		c := uint64(1) << draw.Intn(52)
		check(d, without(d, c), deal.ErrDeal)
		check(without(d, c), without(d, c), deal.ErrDeal)
		check(api.Deal{}, without(d, c), deal.ErrDeal)
		// A deal that is not right is found before one that is no completion.
		check(deal.Turn(d, 1), without(d, c), deal.ErrDeal)
		for k := 1; k < 4; k++ {
			check(d, deal.Turn(d, k), api.ErrNone)
			check(without(d, c), deal.Turn(d, k), api.ErrNone)
		}
	}
	check(api.Deal{}, api.Deal{}, deal.ErrDeal)
	check(suits, api.Deal{}, deal.ErrDeal)
	for one := range 4 {
		for two := range one {
			a, b := uint64(1)<<(13*one+3), uint64(1)<<(13*two+7)
			d := without(suits, a|b)
			d[one] |= b
			d[two] |= a
			check(suits, d, api.ErrNone)
			check(without(suits, a), d, api.ErrNone)
			check(without(suits, b), d, api.ErrNone)
			check(alone(one, a), d, api.ErrNone)
			check(alone(two, b), d, api.ErrNone)
		}
	}
}

// P6.4
func TestRandom(t *testing.T) {
	s := seed.Of(64)
	for _, p := range append(append(partials(), smallPartials()...), partials()...) {
		ways, _ := deal.Ways(p)
		next, n, e := seed.BelowNat(s, ways)
		want, f := deal.Complete(p, n)
		if e != api.OK || f != api.OK {
			t.Fatalf("%x cannot be drawn: %d, %d", p, e, f)
		}
		state, d, g := deal.Random(s, p)
		if state != next || d != want || g != api.OK {
			t.Errorf("Random(%d, %x) is %d, %x, %d, not %d, %x", s, p, state, d, g, next, want)
		}
		s = next
	}
}

// P6.4
func TestRandomOfTheChapter(t *testing.T) {
	// North and East lack a card, and C2 and SA are left: West has D2 in the place of SA.
	p := api.Deal{clubs &^ 1, clubs << 13 &^ (1 << 13), clubs << 26, clubs<<39&^(1<<51) | 1<<13}
	first := api.Deal{p[0] | 1, p[1] | 1<<51, p[2], p[3]}
	second := api.Deal{p[0] | 1<<51, p[1] | 1, p[2], p[3]}
	for _, c := range []struct {
		s, next seed.State
		d       api.Deal
	}{{1, 48271, first}, {48271, 182605794, second}} {
		if s, d, e := deal.Random(c.s, p); s != c.next || d != c.d || e != api.OK {
			t.Errorf("Random(%d, %x) is %d, %x, %d", c.s, p, s, d, e)
		}
	}
	// A deal with one completion takes a value, too.
	if s, d, e := deal.Random(1, suits); s != 48271 || d != suits || e != api.OK {
		t.Errorf("a right deal is drawn as %x with the state %d, %d", d, s, e)
	}
}

// P6.4
func TestRandomErrors(t *testing.T) {
	check := func(s seed.State, p api.Deal, want api.Errno) {
		t.Helper()
		if state, d, e := deal.Random(s, p); state != 0 || d != (api.Deal{}) || e != want {
			t.Errorf("Random(%d, %x) is %d, %x, %d", s, p, state, d, e)
		}
	}
	for _, s := range []seed.State{0, -1, seed.Values + 1, seed.Values + 2, 1 << 62, -1 << 63} {
		check(s, api.Deal{}, api.ErrArg)
		check(s, suits, api.ErrArg)
		check(s, api.Deal{1, 1, 0, 0}, api.ErrArg)
	}
	for _, d := range notPartial() {
		check(1, d, deal.ErrDeal)
		check(seed.Values, d, deal.ErrDeal)
	}
}

// P6.7
func TestCompleteAndIndexAreOpposite(t *testing.T) {
	draw := rand.New(rand.NewSource(67))
	for _, p := range partials() {
		ways, _ := deal.Ways(p)
		var numbers []*big.Int
		for range 6 {
			numbers = append(numbers, below(draw, ways))
		}
		last := new(big.Int).Sub(large(ways), big.NewInt(1))
		numbers = append(numbers, new(big.Int), last)
		if x := new(big.Int).Add(numbers[0], big.NewInt(1)); x.Cmp(last) <= 0 {
			numbers = append(numbers, x)
		}
		slices.SortFunc(numbers, (*big.Int).Cmp)
		var before api.Deal
		for i, x := range numbers {
			n := number(t, x)
			d, e := deal.Complete(p, n)
			if e != api.OK || !deal.Right(d) {
				t.Fatalf("Complete(%x, %s) is %x, %d", p, x, d, e)
			}
			for seat, hand := range p {
				if hand&^d[seat] != 0 {
					t.Fatalf("%x is no completion of %x", d, p)
				}
			}
			if got, e := deal.Index(p, d); got != n || e != api.OK {
				t.Fatalf("Index(%x, %x) is %s, %d, not %s", p, d, nat.Text(got), e, x)
			}
			if i > 0 && compare(before, d) != numbers[i-1].Cmp(x) {
				t.Fatalf("%x has the index %s, %x has %s", before, numbers[i-1], d, x)
			}
			before = d
		}
	}
}

// P6.7
func TestIndicesOfRandomDeals(t *testing.T) {
	draw := rand.New(rand.NewSource(68))
	for range 300 {
		d := dealt(draw)
		p := without(d, randomCards(draw, draw.Intn(53)))
		n, e := deal.Index(p, d)
		if e != api.OK {
			t.Fatalf("Index(%x, %x) is the error %d", p, d, e)
		}
		if got, e := deal.Complete(p, n); got != d || e != api.OK {
			t.Fatalf("Complete(%x, %s) is %x, %d, not %x", p, nat.Text(n), got, e, d)
		}
		if n, e := deal.Index(d, d); n != (nat.N{}) || e != api.OK {
			t.Fatalf("a right deal has the index %s of itself, %d", nat.Text(n), e)
		}
		if ways, e := deal.Ways(d); ways != (nat.N{1}) || e != api.OK {
			t.Fatalf("a right deal has %s completions, %d", nat.Text(ways), e)
		}
	}
}

// P6.7
func TestEachCardLeftGoesToOneSeat(t *testing.T) {
	for _, p := range partials() {
		ways, _ := deal.Ways(p)
		left, _ := deal.Left(p)
		for c := range 52 {
			if left>>c&1 == 0 {
				continue
			}
			sum := new(big.Int)
			for seat := range p {
				with := p
				with[seat] |= 1 << c
				if n, e := deal.Ways(with); e == api.OK {
					sum.Add(sum, large(n))
				}
			}
			if sum.Cmp(large(ways)) != 0 {
				t.Fatalf("%x has %s completions, but %s with the card %d at a seat", p, nat.Text(ways), sum, c)
			}
		}
	}
}
