package irregular_test

import (
	"math/rand"
	"slices"
	"testing"

	"finesse/api"
	"finesse/auction"
	"finesse/irregular"
)

// few visits all lists of up to n elements of a pass, a double, a redouble, three bids and a number that is no call.
func few(n int, visit func([]uint8)) {
	var grow func(l []uint8)
	grow = func(l []uint8) {
		visit(l)
		if len(l) == n {
			return
		}
		for _, x := range []uint8{api.Pass, api.Double, api.Redouble, 5, 10, 11, 38} {
			grow(append(slices.Clone(l), x))
		}
	}
	grow(nil)
}

// someDemands changes the demands of a course, rarely to what cannot be.
func someDemands(r *rand.Rand, c *course) {
	for seat := range 4 {
		switch r.Intn(12) {
		case 0:
			c.Pass[seat] = []int{-2, -1, 1, 2, 100, 101}[r.Intn(6)]
		case 1:
			c.Again[seat] = uint8(r.Intn(40))
		case 2:
			c.Forbid[seat] = uint8(r.Intn(17))
		case 3:
			c.Change = uint8(r.Intn(40))
		case 4:
			c.Again[seat] = uint8(r.Intn(8))
		}
	}
}

// likely returns a call: a pass, a low bid or one that is not much higher than the last bid more often than another one.
func likely(r *rand.Rand, c course) uint8 {
	bid := api.Pass
	if last := lastOf(c.Calls, isBid); last >= 0 {
		bid = c.Calls[last]
	}
	switch r.Intn(6) {
	case 0, 1:
		return api.Pass
	case 2:
		return uint8(r.Intn(3))
	case 3:
		return bid + uint8(r.Intn(6))
	case 4:
		return uint8(r.Intn(int(bid) + 1))
	}
	return uint8(r.Intn(40))
}

// step returns what becomes of a course by a call that is made, accepted or refused; the course itself if nothing does.
func step(r *rand.Rand, c course) course {
	seat, x := uint8(r.Intn(4)), likely(r, c)
	next, e := course{}, api.OK
	switch r.Intn(4) {
	case 0:
		next, e = acceptOf(c, seat, x)
	case 1:
		next, e = refuseOf(c, seat, x)
	case 2:
		next, e = doOf(c, x)
	default:
		next, e = acceptOf(c, turnOf(c), x)
	}
	if e != api.OK {
		return c
	}
	return next
}

// P10.1, P10.6, P10.7
func TestShort(t *testing.T) {
	few(5, func(l []uint8) {
		c := course{Dealer: uint8(len(l) % 5), Calls: l}
		agree(t, c)
		isAuction(t, c)
		for i := range l {
			agree(t, course{Dealer: 2, Calls: l, Accepted: []int{i}})
			for j := range l {
				agree(t, course{Dealer: 1, Calls: l, Accepted: []int{i, j}})
			}
		}
	})
}

// P10.1 to P10.7
func TestShortCalls(t *testing.T) {
	r := rand.New(rand.NewSource(10))
	few(3, func(l []uint8) {
		for range 4 {
			c := course{Dealer: uint8(r.Intn(4)), Calls: l}
			for i, x := range l {
				if isBid(x) && !freeAfter(l[:i], x) {
					c.Accepted = append(c.Accepted, i)
				}
			}
			someDemands(r, &c)
			agree(t, c)
			for seat := range uint8(5) {
				for x := range api.MaxCall + 3 {
					agreeOn(t, c, seat, x)
				}
			}
		}
	})
}

// P10.1 to P10.7
func TestWalks(t *testing.T) {
	r := rand.New(rand.NewSource(11))
	most := 0
	for range 600 {
		c := course{Dealer: uint8(r.Intn(4))}
		for range 60 {
			agree(t, c)
			other := copied(c)
			someDemands(r, &other)
			agree(t, other)
			for _, d := range []course{c, other} {
				agreeOn(t, d, uint8(r.Intn(4)), likely(r, d))
				agreeOn(t, d, turnOf(d), likely(r, d))
			}
			if r.Intn(20) == 0 && isRight(other) {
				c = other
			}
			c = step(r, c)
		}
		most = max(most, len(c.Calls))
	}
	if most < 30 {
		t.Errorf("the longest walk has %d calls", most)
	}
}

// P10.1: a wrong call or index somewhere makes a course wrong.
func TestWrong(t *testing.T) {
	r := rand.New(rand.NewSource(12))
	for range 3000 {
		c := course{Dealer: uint8(r.Intn(4))}
		for range 30 {
			c = step(r, c)
		}
		if len(c.Calls) > 0 {
			c.Calls[r.Intn(len(c.Calls))] = likely(r, c)
		}
		agree(t, c)
		if len(c.Accepted) > 0 {
			c.Accepted[r.Intn(len(c.Accepted))] += r.Intn(5) - 2
		}
		agree(t, c)
	}
}

// P10.7
func TestRegular(t *testing.T) {
	r := rand.New(rand.NewSource(13))
	for range 300 {
		c := course{Dealer: uint8(r.Intn(4))}
		for {
			isAuction(t, c)
			legal, e := irregular.Legal(c)
			if e == irregular.ErrOver {
				break
			}
			next, e := irregular.Do(c, legal[r.Intn(min(4, len(legal)))])
			if e != api.OK || next.Pass != [4]int{} || next.Again != [4]uint8{} || next.Forbid != [4]uint8{} || next.Change != 0 || len(next.Accepted) > 0 {
				t.Fatalf("Do after %v: %v, %d", c, next, e)
			}
			c = next
		}
		if _, e := auction.Contract(c.Dealer, c.Calls); e != api.OK {
			t.Fatalf("%v is no auction that is over: %d", c, e)
		}
	}
}

// P10.7
func TestSomethingIsLegal(t *testing.T) {
	r := rand.New(rand.NewSource(14))
	for range 300 {
		c := course{Dealer: uint8(r.Intn(4))}
		for range 40 {
			over, e := irregular.Over(c)
			legal, f := irregular.Legal(c)
			if e != api.OK || over != (f == irregular.ErrOver) || over == (len(legal) > 0) {
				t.Fatalf("legal after %v: %v, %d", c, legal, f)
			}
			if !over && c.Pass[turnOf(c)] != 0 && !slices.Equal(legal, []uint8{api.Pass}) {
				t.Fatalf("legal after %v: %v", c, legal)
			}
			seat, x := uint8(r.Intn(4)), likely(r, c)
			if next, e := irregular.Refuse(c, seat, x); e == api.OK && (!slices.Equal(next.Calls, c.Calls) || !slices.Equal(next.Accepted, c.Accepted) || next.Dealer != c.Dealer) {
				t.Fatalf("Refuse(%v, %d, %d) is %v", c, seat, x, next)
			}
			c = step(r, c)
		}
	}
}

// The examples of the chapter.
func TestExamples(t *testing.T) {
	must := func(c course, e api.Errno) course {
		t.Helper()
		if e != api.OK {
			t.Fatal(e)
		}
		return c
	}
	start := of(t, 0, "2S")
	accepted := must(irregular.Accept(start, 1, 10))
	legal, _ := irregular.Legal(accepted)
	if !same(accepted, course{Calls: []uint8{11, 10}, Accepted: []int{1}}) || !slices.Contains(legal, 11) {
		t.Errorf("2H over 2S is accepted: %v", accepted)
	}
	refused := must(irregular.Refuse(start, 1, 10))
	legal, _ = irregular.Legal(refused)
	if !same(refused, course{Calls: []uint8{11}, Change: 11}) || len(legal) != 27 || legal[0] != api.Pass || legal[1] != 12 || legal[26] != api.MaxCall {
		t.Errorf("2H over 2S is refused: %v, %v", refused, legal)
	}
	if c := must(irregular.Do(refused, 15)); !same(c, course{Calls: []uint8{11, 15}}) {
		t.Errorf("3H instead of 2H: %v", c)
	}
	if c := must(irregular.Do(refused, 0)); !same(c, course{Calls: []uint8{11, 0}, Pass: [4]int{3: -1}, Forbid: [4]uint8{3: 4}}) {
		t.Errorf("a pass instead of 2H: %v", c)
	}
	if c := must(irregular.Accept(course{}, 1, 3)); !same(c, course{Calls: []uint8{0, 3}}) {
		t.Errorf("1C of East is accepted: %v", c)
	}
	east := must(irregular.Refuse(course{}, 1, 3))
	legal, _ = irregular.Legal(must(irregular.Do(east, 0)))
	if !same(east, course{Again: [4]uint8{1: 4}}) || !slices.Equal(legal, []uint8{3}) {
		t.Errorf("1C of East is refused: %v, %v", east, legal)
	}
	bid := must(irregular.Do(east, 5))
	legal, _ = irregular.Legal(bid)
	if c := must(irregular.Do(bid, 6)); len(legal) != 34 || !same(c, course{Calls: []uint8{5, 6}, Pass: [4]int{3: 1}}) {
		t.Errorf("1H of North before East: %v, %v", legal, c)
	}
	if c := must(irregular.Refuse(course{}, 2, 3)); !same(c, course{Pass: [4]int{2: -1}, Forbid: [4]uint8{1}}) {
		t.Errorf("1C of South is refused: %v", c)
	}
	club := of(t, 0, "1C")
	if _, e := irregular.Accept(club, 0, 4); e != irregular.ErrFirm {
		t.Errorf("1D of North is accepted: %d", e)
	}
	if c := must(irregular.Refuse(club, 0, 4)); !same(c, course{Calls: []uint8{3}, Pass: [4]int{2: 1}}) {
		t.Errorf("1D of North is refused: %v", c)
	}
}

// The promises' first sentence: arguments are not modified, and results share no memory with them.
func TestMemory(t *testing.T) {
	calls, accepted := []uint8{11, 10, 12, 11, 99, 99, 99, 99, 99}, []int{1, 3, 77, 77, 77}
	keptCalls, keptAccepted := slices.Clone(calls), slices.Clone(accepted)
	c := course{Calls: calls[:4], Accepted: accepted[:2], Forbid: [4]uint8{8, 8, 8, 8}, Pass: [4]int{0, 1, 1, 1}}
	kept := copied(c)
	results := []course{}
	take := func(next course, e api.Errno) {
		t.Helper()
		if e != api.OK {
			t.Error(e)
		}
		results = append(results, next)
	}
	take(irregular.Do(c, 12))
	take(irregular.Do(c, 0))
	take(irregular.Accept(c, 0, 9))
	take(irregular.Accept(c, 1, 12))
	take(irregular.Accept(c, 2, 0))
	take(irregular.Refuse(c, 0, 9))
	take(irregular.Refuse(c, 1, 12))
	take(irregular.Refuse(c, 2, 12))
	take(irregular.Refuse(c, 3, 12))
	for _, next := range results {
		for i := range next.Calls {
			next.Calls[i] = 66
		}
		for i := range next.Accepted {
			next.Accepted[i] = 66
		}
		clear(next.Calls[len(next.Calls):cap(next.Calls)])
		clear(next.Accepted[len(next.Accepted):cap(next.Accepted)])
	}
	legal, _ := irregular.Legal(c)
	for i := range legal {
		legal[i] = 66
	}
	irregular.Right(c)
	irregular.Over(c)
	irregular.Turn(c)
	irregular.Kind(c, 0, 1)
	irregular.Contract(c)
	irregular.Lead(c)
	if !slices.Equal(calls, keptCalls) || !slices.Equal(accepted, keptAccepted) || !same(c, kept) {
		t.Errorf("the arguments are %v and %v now", calls, accepted)
	}
	if again, _ := irregular.Legal(c); again[0] != api.Pass {
		t.Errorf("the legal calls are %v now", again)
	}
}

// Lists that are far too long are wrong soon.
func TestHuge(t *testing.T) {
	huge := course{Calls: make([]uint8, 1<<20), Accepted: make([]int, 1<<20)}
	agree(t, huge)
	huge.Calls = nil
	agree(t, huge)
	huge.Calls = []uint8{11, 10}
	huge.Accepted[0] = 1
	agree(t, huge)
}
