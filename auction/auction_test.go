package auction_test

import (
	"math/rand"
	"slices"
	"testing"

	"finesse/api"
	"finesse/auction"
	"finesse/call"
)

// calls returns the calls with a string.
func calls(t *testing.T, s string) []uint8 {
	t.Helper()
	l, e := call.ReadAll(s)
	if e != api.OK {
		t.Fatalf("%q is no string of calls: %d", s, e)
	}
	return l
}

// lowest is the lowest bid; bids of a denomination are five apart.
const lowest = 3

func isBid(c uint8) bool { return c >= lowest && c <= api.MaxCall }

// lastOf returns the index of the last call for which a condition holds; -1 if there is none.
func lastOf(l []uint8, holds func(uint8) bool) int {
	last := -1
	for i, c := range l {
		if holds(c) {
			last = i
		}
	}
	return last
}

func noPass(c uint8) bool { return c != api.Pass }

// isOver follows the definition, for calls that are legal.
func isOver(l []uint8) bool {
	if lastOf(l, isBid) < 0 {
		return len(l) >= 4
	}
	return len(l) >= 3 && lastOf(l, noPass) < len(l)-3
}

// isLegal follows the definition, for calls that are not over.
func isLegal(l []uint8, c uint8) bool {
	last := lastOf(l, noPass)
	otherSide := last >= 0 && (len(l)-last)%2 == 1
	switch {
	case c == api.Pass:
		return true
	case c == api.Double:
		return otherSide && isBid(l[last])
	case c == api.Redouble:
		return otherSide && l[last] == api.Double
	}
	bid := lastOf(l, isBid)
	return bid < 0 || c > l[bid]
}

// wrong is what Check has to return.
func wrong(dealer uint8, l []uint8) (int, api.Errno) {
	if dealer > 3 {
		return -1, api.ErrArg
	}
	for i, c := range l {
		switch {
		case c > api.MaxCall:
			return i, call.ErrCall
		case isOver(l[:i]):
			return i, auction.ErrOver
		case !isLegal(l[:i], c):
			return i, api.ErrArg
		}
	}
	return -1, api.OK
}

// legalAfter is what Legal has to return for a right auction that is not over.
func legalAfter(l []uint8) []uint8 {
	var legal []uint8
	for c := range api.MaxCall + 1 {
		if isLegal(l, c) {
			legal = append(legal, c)
		}
	}
	return legal
}

// made is the contract of a right auction that is over.
func made(dealer uint8, l []uint8) api.Contract {
	last := lastOf(l, isBid)
	if last < 0 {
		return api.Contract{}
	}
	c := api.Contract{Level: (l[last]-lowest)/5 + 1, Denom: (l[last] - lowest) % 5}
	for _, after := range l[last:] {
		if after == api.Double || after == api.Redouble {
			c.Risk = max(c.Risk, after)
		}
	}
	for i := len(l) - 1; i >= 0; i-- {
		if isBid(l[i]) && (l[i]-lowest)%5 == c.Denom && (last-i)%2 == 0 {
			c.Declarer = uint8((int(dealer) + i) % 4)
		}
	}
	return c
}

// walk makes an auction of legal calls until it is over; passes is how many of ten calls are passes, and step how far a bid is over the last one at most.
func walk(r *rand.Rand, passes, step int) []uint8 {
	var l []uint8
	for !isOver(l) {
		legal := legalAfter(l)
		if r.Intn(10) < passes {
			l = append(l, api.Pass)
			continue
		}
		l = append(l, legal[r.Intn(min(step, len(legal)))])
	}
	return l
}

// walks makes auctions of many kinds, long ones and short ones.
func walks(seed int64, n int) [][]uint8 {
	r := rand.New(rand.NewSource(seed))
	var all [][]uint8
	for range n {
		all = append(all, walk(r, r.Intn(8), 2+r.Intn(30)))
	}
	return all
}

// longest is the longest auction: each bid is doubled and redoubled, with two passes before each call.
func longest() []uint8 {
	l := []uint8{0, 0, 0}
	for bid := uint8(lowest); bid <= api.MaxCall; bid++ {
		l = append(l, bid, 0, 0, api.Double, 0, 0, api.Redouble, 0, 0)
	}
	return append(l, 0)
}

// short visits all lists of numbers up to 39 (two of which are no calls) with at most n elements.
func short(n int, visit func([]uint8)) {
	var grow func(l []uint8)
	grow = func(l []uint8) {
		visit(l)
		if len(l) == n {
			return
		}
		for c := range api.MaxCall + 3 {
			grow(append(slices.Clone(l), c))
		}
	}
	grow(nil)
}

// few visits all lists of up to n elements of a pass, a double, a redouble, two bids and a number that is no call.
func few(n int, visit func([]uint8)) {
	l := []uint8{}
	var grow func()
	grow = func() {
		visit(l)
		if len(l) == n {
			return
		}
		for _, c := range []uint8{api.Pass, api.Double, api.Redouble, 5, 10, 38} {
			l = append(l, c)
			grow()
			l = l[:len(l)-1]
		}
	}
	grow()
}

// agree compares what a right auction, or one that is not, has to have.
func agree(t *testing.T, dealer uint8, l []uint8) {
	t.Helper()
	wantAt, wantCheck := wrong(dealer, l)
	if at, e := auction.Check(dealer, l); at != wantAt || e != wantCheck {
		t.Fatalf("Check(%d, %v) is %d, %d, not %d, %d", dealer, l, at, e, wantAt, wantCheck)
	}
	ended := false
	var turn uint8
	var legal []uint8
	var contract api.Contract
	wantOver, wantOpen, wantContract := api.ErrArg, api.ErrArg, api.ErrArg
	if wantCheck == api.OK {
		ended, wantOver = isOver(l), api.OK
		if ended {
			wantOpen, wantContract = auction.ErrOver, api.OK
			contract = made(dealer, l)
		} else {
			wantOpen, wantContract = api.OK, auction.ErrOpen
			turn, legal = uint8((int(dealer)+len(l))%4), legalAfter(l)
		}
	}
	if over, e := auction.Over(dealer, l); over != ended || e != wantOver {
		t.Fatalf("Over(%d, %v) is %t, %d, not %t, %d", dealer, l, over, e, ended, wantOver)
	}
	if seat, e := auction.Turn(dealer, l); seat != turn || e != wantOpen {
		t.Fatalf("Turn(%d, %v) is %d, %d, not %d, %d", dealer, l, seat, e, turn, wantOpen)
	}
	if next, e := auction.Legal(dealer, l); !slices.Equal(next, legal) || e != wantOpen {
		t.Fatalf("Legal(%d, %v) is %v, %d, not %v, %d", dealer, l, next, e, legal, wantOpen)
	}
	if c, e := auction.Contract(dealer, l); c != contract || e != wantContract {
		t.Fatalf("Contract(%d, %v) is %v, %d, not %v, %d", dealer, l, c, e, contract, wantContract)
	}
}

func TestNumbers(t *testing.T) {
	if auction.ErrOver != 90 || auction.ErrOpen != 91 || auction.ErrText != 92 {
		t.Errorf("the errors are %d, %d, %d", auction.ErrOver, auction.ErrOpen, auction.ErrText)
	}
}

// P9.1
func TestCheck(t *testing.T) {
	for _, c := range []struct {
		dealer uint8
		calls  string
		at     int
		e      api.Errno
	}{
		{1, "P 1H P 2H P P X P P XX P P P", -1, api.OK},
		{0, "", -1, api.OK},
		{0, "P P P", -1, api.OK},
		{0, "P P P P", -1, api.OK},
		{0, "P P P P P", 4, auction.ErrOver},
		{0, "P P P P 1C", 4, auction.ErrOver},
		{0, "P P P P X", 4, auction.ErrOver},
		{0, "P P P 1C P P P", -1, api.OK},
		{0, "P P P 1C P P P P", 7, auction.ErrOver},
		{0, "1C P P P P", 4, auction.ErrOver},
		{0, "1C X P P P XX", 5, auction.ErrOver},
		{0, "X", 0, api.ErrArg},
		{0, "XX", 0, api.ErrArg},
		{0, "P X", 1, api.ErrArg},
		{0, "1C P 1C", 2, api.ErrArg},
		{0, "2C 1NT", 1, api.ErrArg},
		{0, "1NT 2C", -1, api.OK},
		{0, "1C P X", 2, api.ErrArg},
		{0, "1C P P X", -1, api.OK},
		{0, "1C X X", 2, api.ErrArg},
		{0, "1C X P X", 3, api.ErrArg},
		{0, "1C X P P XX", -1, api.OK},
		{0, "1C X P XX", 3, api.ErrArg},
		{0, "1C P XX", 2, api.ErrArg},
		{0, "1C X XX XX", 3, api.ErrArg},
		{0, "1C X XX X", 3, api.ErrArg},
		{0, "1C X 1D XX", 3, api.ErrArg},
		{0, "1C X 1D X", -1, api.OK},
	} {
		if at, e := auction.Check(c.dealer, calls(t, c.calls)); at != c.at || e != c.e {
			t.Errorf("Check(%d, %s) is %d, %d, not %d, %d", c.dealer, c.calls, at, e, c.at, c.e)
		}
	}
	for dealer := 4; dealer < 256; dealer++ {
		for _, l := range [][]uint8{nil, {0, 0, 0, 0}, {api.Double}, {99}, {0, 0, 0, 0, 0}} {
			if at, e := auction.Check(uint8(dealer), l); at != -1 || e != api.ErrArg {
				t.Errorf("Check(%d, %v) is %d, %d", dealer, l, at, e)
			}
		}
	}
}

// P9.1
func TestCheckNoCalls(t *testing.T) {
	for c := 38; c < 256; c++ {
		for _, before := range [][]uint8{nil, {0}, {3, 1}, {0, 0, 0, 0}, {37, 0, 0, 0}} {
			if at, e := auction.Check(2, append(slices.Clone(before), uint8(c))); at != len(before) || e != call.ErrCall {
				t.Errorf("Check of %d after %v is %d, %d", c, before, at, e)
			}
		}
	}
	// What stands after the first wrong call says nothing.
	if at, e := auction.Check(0, []uint8{0, 1, 99}); at != 1 || e != api.ErrArg {
		t.Errorf("Check is %d, %d", at, e)
	}
	if at, e := auction.Check(0, make([]uint8, 1000000)); at != 4 || e != auction.ErrOver {
		t.Errorf("Check of a million passes is %d, %d", at, e)
	}
}

// P9.1, P9.2
func TestShort(t *testing.T) {
	for _, dealer := range []uint8{0, 3, 4, 255} {
		short(2, func(l []uint8) { agree(t, dealer, l) })
	}
	short(3, func(l []uint8) { agree(t, 2, l) })
	few(7, func(l []uint8) { agree(t, 1, l) })
}

// P9.1, P9.2
func TestWalks(t *testing.T) {
	r := rand.New(rand.NewSource(9))
	for _, l := range append(walks(1, 400), longest()) {
		dealer := uint8(r.Intn(4))
		for n := range len(l) + 1 {
			agree(t, dealer, l[:n])
		}
		agree(t, dealer, append(slices.Clone(l), uint8(r.Intn(40))))
		for range 20 {
			other := slices.Clone(l)
			other[r.Intn(len(other))] = uint8(r.Intn(40))
			agree(t, dealer, other)
		}
		agree(t, uint8(4+r.Intn(252)), l)
	}
}

// P9.2
func TestOver(t *testing.T) {
	for _, c := range []struct {
		calls string
		want  bool
	}{
		{"", false}, {"P", false}, {"P P P", false}, {"P P P P", true}, {"P P P 1C", false}, {"P P P 1C P P", false},
		{"P P P 1C P P P", true}, {"1C P P P", true}, {"1C X P P P", true}, {"1C X XX P P", false}, {"7NT P P", false},
	} {
		if over, e := auction.Over(0, calls(t, c.calls)); over != c.want || e != api.OK {
			t.Errorf("Over(0, %s) is %t, %d", c.calls, over, e)
		}
	}
	for _, c := range []struct {
		dealer uint8
		l      []uint8
	}{{4, nil}, {4, []uint8{0, 0, 0, 0}}, {0, []uint8{0, 0, 0, 0, 0}}, {0, []uint8{1}}, {0, []uint8{38}}, {0, []uint8{4, 3}}} {
		if over, e := auction.Over(c.dealer, c.l); over || e != api.ErrArg {
			t.Errorf("Over(%d, %v) is %t, %d", c.dealer, c.l, over, e)
		}
	}
}

// P9.2
func TestTurnAndLegal(t *testing.T) {
	for _, c := range []struct {
		dealer, turn uint8
		calls, legal string
		e            api.Errno
	}{
		{1, 1, "P 1H P 2H P P X P P XX P P", "P 2S 2NT 3C 3D 3H 3S 3NT 4C 4D 4H 4S 4NT 5C 5D 5H 5S 5NT 6C 6D 6H 6S 6NT 7C 7D 7H 7S 7NT", api.OK},
		{0, 2, "P 1H", "P X 1S 1NT 2C 2D 2H 2S 2NT 3C 3D 3H 3S 3NT 4C 4D 4H 4S 4NT 5C 5D 5H 5S 5NT 6C 6D 6H 6S 6NT 7C 7D 7H 7S 7NT", api.OK},
		{3, 0, "7NT", "P X", api.OK},
		{3, 1, "7NT X", "P XX", api.OK},
		{3, 2, "7NT X P", "P", api.OK},
		{3, 3, "7NT X P P", "P XX", api.OK},
		{3, 2, "7NT X XX", "P", api.OK},
		{3, 0, "7S P P X XX", "P 7NT", api.OK},
		{3, 0, "7S P X", "", api.ErrArg},
		{0, 0, "P P P P", "", auction.ErrOver},
		{2, 0, "1C P P P", "", auction.ErrOver},
		{2, 0, "1C P P P P", "", api.ErrArg},
		{4, 0, "1C P P P", "", api.ErrArg},
	} {
		l := calls(t, c.calls)
		if turn, e := auction.Turn(c.dealer, l); turn != c.turn || e != c.e {
			t.Errorf("Turn(%d, %s) is %d, %d", c.dealer, c.calls, turn, e)
		}
		legal, e := auction.Legal(c.dealer, l)
		if s, _ := call.TextAll(legal); s != c.legal || e != c.e {
			t.Errorf("Legal(%d, %s) is %s, %d", c.dealer, c.calls, s, e)
		}
	}
	all, e := auction.Legal(2, nil)
	if len(all) != 36 || all[0] != api.Pass || all[1] != lowest || all[35] != api.MaxCall || e != api.OK {
		t.Errorf("Legal(2) is %v, %d", all, e)
	}
}

// P9.2
func TestContract(t *testing.T) {
	for _, c := range []struct {
		dealer uint8
		calls  string
		want   api.Contract
		e      api.Errno
	}{
		{1, "P 1H P 2H P P X P P XX P P P", api.Contract{Level: 2, Denom: 2, Risk: 2, Declarer: 2}, api.OK},
		{1, "P 1H P 2H P P X P P XX P P", api.Contract{}, auction.ErrOpen},
		{0, "", api.Contract{}, auction.ErrOpen},
		{0, "P P P", api.Contract{}, auction.ErrOpen},
		{3, "P P P P", api.Contract{}, api.OK},
		{3, "P P P P P", api.Contract{}, api.ErrArg},
		{4, "P P P P", api.Contract{}, api.ErrArg},
		{4, "P P P", api.Contract{}, api.ErrArg},
		// The other side bid the denomination first.
		{0, "1H 2H P 3H P P P", api.Contract{Level: 3, Denom: 2, Declarer: 1}, api.OK},
		// The partner bid it first, long ago, and the risk of earlier bids is gone.
		{2, "1S X 2C X 2D P 2S P P P", api.Contract{Level: 2, Denom: 3, Declarer: 2}, api.OK},
		{2, "P 1D X XX 1NT P P X P P P", api.Contract{Level: 1, Denom: 4, Risk: 1, Declarer: 2}, api.OK},
		{1, "1C X XX 7NT X P P XX P P P", api.Contract{Level: 7, Denom: 4, Risk: 2, Declarer: 0}, api.OK},
	} {
		if got, e := auction.Contract(c.dealer, calls(t, c.calls)); got != c.want || e != c.e {
			t.Errorf("Contract(%d, %s) is %v, %d, not %v, %d", c.dealer, c.calls, got, e, c.want, c.e)
		}
	}
}

// P9.3
func TestLast(t *testing.T) {
	for _, c := range []struct {
		l  []uint8
		at int
		is bool
	}{
		{nil, 0, false}, {[]uint8{0, 0, 0}, 0, false}, {[]uint8{0, 1, 2, 38, 255}, 0, false},
		{[]uint8{3}, 0, true}, {[]uint8{37, 3}, 1, true}, {[]uint8{0, 37, 38, 99, 2, 1}, 1, true}, {[]uint8{5, 5, 5, 0}, 2, true},
	} {
		if at, is := auction.Last(c.l); at != c.at || is != c.is {
			t.Errorf("Last(%v) is %d, %t", c.l, at, is)
		}
	}
	r := rand.New(rand.NewSource(3))
	for range 2000 {
		l := make([]uint8, r.Intn(6))
		for i := range l {
			l[i] = uint8(r.Intn(256) >> r.Intn(8))
		}
		want := lastOf(l, isBid)
		if at, is := auction.Last(l); at != max(want, 0) || is != (want >= 0) {
			t.Errorf("Last(%v) is %d, %t", l, at, is)
		}
	}
}

// P9.3
func TestLeader(t *testing.T) {
	edges := []uint8{0, 1, 2, 3, 4, 5, 6, 7, 8, 9, 127, 128, 254, 255}
	for _, level := range edges {
		for _, denom := range edges {
			for _, risk := range edges {
				for _, seat := range edges {
					c := api.Contract{Level: level, Denom: denom, Risk: risk, Declarer: seat}
					want, wrong := (seat+1)%4, api.OK
					if level > 7 || denom > 4 || risk > 2 || seat > 3 {
						want, wrong = 0, api.ErrArg
					}
					if level == 0 {
						want, wrong = 0, api.ErrNone
					}
					if x, e := auction.Leader(c); x != want || e != wrong {
						t.Fatalf("Leader(%v) is %d, %d, not %d, %d", c, x, e, want, wrong)
					}
				}
			}
		}
	}
	if x, e := auction.Leader(api.Contract{Level: 2, Denom: 2, Risk: 2, Declarer: 2}); x != 3 || e != api.OK {
		t.Errorf("Leader is %d, %d", x, e)
	}
}

// P9.5
func TestLength(t *testing.T) {
	l := longest()
	if at, e := auction.Check(0, l); len(l) != call.MaxCalls || at != -1 || e != api.OK {
		t.Errorf("the longest auction has %d calls: %d, %d", len(l), at, e)
	}
	if over, e := auction.Over(0, l); !over || e != api.OK {
		t.Errorf("the longest auction: %t, %d", over, e)
	}
	r := rand.New(rand.NewSource(5))
	for range 100 {
		// The legal calls themselves lead to the end.
		l := []uint8{}
		dealer := uint8(r.Intn(4))
		for {
			legal, e := auction.Legal(dealer, l)
			if e == auction.ErrOver {
				break
			}
			if e != api.OK || len(l) >= call.MaxCalls || len(legal) == 0 || legal[0] != api.Pass {
				t.Fatalf("Legal(%d, %v) is %v, %d", dealer, l, legal, e)
			}
			l = append(l, legal[r.Intn(min(3, len(legal)))])
		}
	}
}

// P9.5
func TestContractsAreFair(t *testing.T) {
	for _, l := range walks(2, 2000) {
		first, e := auction.Contract(0, l)
		if e != api.OK {
			t.Fatalf("Contract(0, %v) is %d", l, e)
		}
		last, some := auction.Last(l)
		if some != (first.Level > 0) || !some && first != (api.Contract{}) {
			t.Fatalf("Contract(0, %v) is %v", l, first)
		}
		if some && int(first.Declarer)%2 != last%2 {
			t.Fatalf("Contract(0, %v) is %v: the other side made the last bid", l, first)
		}
		// The other side's calls have odd distances from the last bid.
		after := l[last:]
		doubled, redoubled := slices.Index(after, api.Double), slices.Index(after, api.Redouble)
		if (first.Risk > 0) != (doubled >= 0) || doubled >= 0 && doubled%2 == 0 {
			t.Fatalf("Contract(0, %v) is %v", l, first)
		}
		if (first.Risk == 2) != (redoubled >= 0) || redoubled >= 0 && (redoubled < doubled || redoubled%2 == 1) {
			t.Fatalf("Contract(0, %v) is %v", l, first)
		}
		for dealer := uint8(1); dealer < 4; dealer++ {
			want := first
			if some {
				want.Declarer = (first.Declarer + dealer) % 4
			}
			if c, e := auction.Contract(dealer, l); c != want || e != api.OK {
				t.Fatalf("Contract(%d, %v) is %v, not %v", dealer, l, c, want)
			}
		}
	}
}

// The promises' first sentence: arguments are not modified, and results share no memory.
func TestMemory(t *testing.T) {
	room := []uint8{0, 5, 1, 99, 99, 99, 99}
	kept := slices.Clone(room)
	l := room[:3]
	table, _ := auction.Table(1, l)
	lines := slices.Clone(table)
	legal, _ := auction.Legal(1, l)
	_, read, _ := auction.Read(table)
	for i := range legal {
		legal[i] = 77
	}
	for i := range read {
		read[i] = 77
	}
	auction.Check(1, l)
	auction.Over(1, l)
	auction.Turn(1, l)
	auction.Contract(1, l)
	auction.Last(l)
	if !slices.Equal(room, kept) || !slices.Equal(table, lines) {
		t.Errorf("the arguments are %v and %q now", room, table)
	}
	if again, _ := auction.Legal(1, l); again[0] != api.Pass {
		t.Errorf("the legal calls are %v now", again)
	}
	if _, again, _ := auction.Read(table); !slices.Equal(again, l) {
		t.Errorf("the calls are %v now", again)
	}
}
