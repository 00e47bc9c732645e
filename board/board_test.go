package board_test

import (
	"math"
	"math/rand"
	"slices"
	"testing"

	"finesse/api"
	"finesse/board"
	"finesse/deal"
)

const clubs uint64 = 1<<13 - 1

// suits is the deal in which each seat has a suit, in their order.
var suits = api.Deal{clubs, clubs << 13, clubs << 26, clubs << 39}

// dealt returns a right deal of a random order of the cards.
func dealt(draw *rand.Rand) api.Deal {
	var d api.Deal
	for i, c := range draw.Perm(52) {
		d[i/13] |= 1 << c
	}
	return d
}

// rights returns right deals: turned suits, and random ones.
func rights() []api.Deal {
	draw := rand.New(rand.NewSource(7))
	l := []api.Deal{suits, deal.Turn(suits, 1), deal.Turn(suits, 2), deal.Turn(suits, 3)}
	for range 60 {
		l = append(l, dealt(draw))
	}
	return l
}

// notRights returns deals that are not right: each has one fault, or several.
func notRights() []api.Deal {
	l := []api.Deal{{}, {clubs, clubs, clubs, clubs}, {1<<52 - 1}, {1<<64 - 1, 1<<64 - 1, 1<<64 - 1, 1<<64 - 1}}
	for seat := range 4 {
		next := (seat + 1) % 4
		own := uint64(1) << (13 * seat)
		lacks, high, twice, more, none := suits, suits, suits, suits, suits
		lacks[seat] &^= own
		high[seat] = high[seat]&^own | 1<<(52+seat)
		twice[seat] = twice[next]
		more[next] |= own
		none[seat] = 0
		given := lacks
		given[next] |= own
		l = append(l, lacks, high, twice, more, none, given)
	}
	return l
}

// exchanged returns the deal with the least cards of two hands exchanged.
func exchanged(d api.Deal, one, two int) api.Deal {
	a, b := d[one]&-d[one], d[two]&-d[two]
	d[one] ^= a | b
	d[two] ^= a | b
	return d
}

// notBoards are numbers of no board.
var notBoards = []int{0, -1, -2, -3, -4, -16, -127, -128, 129, 130, 144, 255, 256, 257, 1 << 32, 1<<32 + 1, 1<<62 + 5, math.MaxInt, math.MaxInt - 1, math.MinInt, math.MinInt + 1, math.MinInt + 2}

// The names of seats and vulnerabilities, in their order.
const (
	north = iota
	east
	south
	west
)

const (
	nobody = iota
	northSouth
	eastWest
	everybody
)

// ofBoards is the dealer and the vulnerability of the boards 1 to 16, as they are printed on them.
var ofBoards = [16][2]uint8{
	{north, nobody}, {east, northSouth}, {south, eastWest}, {west, everybody},
	{north, northSouth}, {east, eastWest}, {south, everybody}, {west, nobody},
	{north, eastWest}, {east, everybody}, {south, nobody}, {west, northSouth},
	{north, everybody}, {east, nobody}, {south, northSouth}, {west, eastWest},
}

// P7.1
func TestDealerAndVulnerability(t *testing.T) {
	for n := 1; n <= 128; n++ {
		want := ofBoards[(n-1)%16]
		if seat, e := board.Dealer(n); seat != want[0] || e != api.OK {
			t.Errorf("the dealer of %d is %d, %d", n, seat, e)
		}
		if vul, e := board.Vulnerability(n); vul != want[1] || e != api.OK {
			t.Errorf("the vulnerability of %d is %d, %d", n, vul, e)
		}
	}
}

// P7.1
func TestNumbersOfNoBoard(t *testing.T) {
	for _, n := range notBoards {
		if seat, e := board.Dealer(n); seat != 0 || e != board.ErrBoard {
			t.Errorf("the dealer of %d is %d, %d", n, seat, e)
		}
		if vul, e := board.Vulnerability(n); vul != 0 || e != board.ErrBoard {
			t.Errorf("the vulnerability of %d is %d, %d", n, vul, e)
		}
	}
	if board.ErrBoard != 70 || board.ErrText != 71 {
		t.Error("the errors have other numbers")
	}
}

// P7.1: the least number that there is, for all arguments.
func TestFind(t *testing.T) {
	for dealer := range 256 {
		for vul := range 256 {
			want := slices.Index(ofBoards[:], [2]uint8{uint8(dealer), uint8(vul)}) + 1
			wantError := api.OK
			if dealer > 3 || vul > 3 {
				want, wantError = 0, api.ErrArg
			}
			if n, e := board.Find(uint8(dealer), uint8(vul)); n != want || e != wantError {
				t.Errorf("Find(%d, %d) is %d, %d", dealer, vul, n, e)
			}
		}
	}
	if n, e := board.Find(south, everybody); n != 7 || e != api.OK {
		t.Errorf("South deals, and all are vulnerable, on board %d, %d", n, e)
	}
}

// P7.6
func TestSixteenBoardsInARow(t *testing.T) {
	for first := 1; first <= 128-15; first++ {
		seen := map[[2]uint8]bool{}
		var deals [4]int
		var vulnerable [2]int
		for n := first; n < first+16; n++ {
			seat, e := board.Dealer(n)
			vul, f := board.Vulnerability(n)
			if e != api.OK || f != api.OK || seat > 3 || vul > 3 {
				t.Fatalf("the board %d has %d, %d, %d, %d", n, seat, e, vul, f)
			}
			seen[[2]uint8{seat, vul}] = true
			deals[seat]++
			vulnerable[0] += int(vul & 1)
			vulnerable[1] += int(vul >> 1)
			if found, e := board.Find(seat, vul); e != api.OK || found > n || found != (n-1)%16+1 {
				t.Errorf("the board %d is found at %d, %d", n, found, e)
			}
		}
		if len(seen) != 16 || deals != [4]int{4, 4, 4, 4} || vulnerable != [2]int{8, 8} {
			t.Errorf("the boards from %d on have %d kinds, dealers %v, vulnerable sides %v", first, len(seen), deals, vulnerable)
		}
	}
}

// holder returns the seat of a right deal that has a card.
func holder(d api.Deal, c uint8) uint8 {
	for seat, hand := range d {
		if hand>>c&1 == 1 {
			return uint8(seat)
		}
	}
	panic("nobody has the card")
}

// P7.2
func TestChangesOfTheChapter(t *testing.T) {
	b := exchanged(suits, north, east)
	want := []board.Change{{Card: 0, From: north, To: east}, {Card: 13, From: east, To: north}}
	if l, e := board.Changes(suits, b); e != api.OK || !slices.Equal(l, want) {
		t.Errorf("the changes are %v, %d", l, e)
	}
	for k := 1; k < 4; k++ {
		l, e := board.Changes(suits, deal.Turn(suits, k))
		if len(l) != 52 || e != api.OK {
			t.Fatalf("a turn by %d has the changes %v, %d", k, l, e)
		}
		for c, x := range l {
			from := c / 13
			if x != (board.Change{Card: uint8(c), From: uint8(from), To: uint8((from + k) % 4)}) {
				t.Errorf("a turn by %d has the change %v", k, x)
			}
		}
	}
}

// P7.2
func TestChangesAreAllCardsWithAnotherSeat(t *testing.T) {
	l := rights()
	for _, a := range l {
		for _, b := range append(l, exchanged(a, 0, 3), exchanged(a, 1, 2), exchanged(a, 2, 0)) {
			changes, e := board.Changes(a, b)
			if e != api.OK {
				t.Fatalf("Changes(%x, %x) is the error %d", a, b, e)
			}
			var want []board.Change
			for c := range uint8(52) {
				if from, to := holder(a, c), holder(b, c); from != to {
					want = append(want, board.Change{Card: c, From: from, To: to})
				}
			}
			if !slices.Equal(changes, want) {
				t.Fatalf("Changes(%x, %x) is %v, not %v", a, b, changes, want)
			}
		}
	}
}

// P7.6
func TestChangesConsequences(t *testing.T) {
	l := rights()
	for _, a := range l {
		if same, e := board.Changes(a, a); len(same) != 0 || e != api.OK {
			t.Errorf("%x has the changes %v, %d to itself", a, same, e)
		}
		for _, b := range l {
			there, _ := board.Changes(a, b)
			back, _ := board.Changes(b, a)
			var more [4]int
			for i, x := range there {
				more[x.From]--
				more[x.To]++
				there[i].From, there[i].To = x.To, x.From
			}
			if more != [4]int{} {
				t.Errorf("from %x to %x the seats get %v cards more", a, b, more)
			}
			if !slices.Equal(there, back) {
				t.Errorf("from %x to %x there are other changes than back", a, b)
			}
			if (len(back) == 0) != (a == b) {
				t.Errorf("from %x to %x there are %d changes", a, b, len(back))
			}
		}
	}
}

// P7.2
func TestChangesOfDealsThatAreNotRight(t *testing.T) {
	for _, d := range notRights() {
		for _, c := range [][2]api.Deal{{suits, d}, {d, suits}, {d, d}} {
			if l, e := board.Changes(c[0], c[1]); len(l) != 0 || e != deal.ErrDeal {
				t.Errorf("Changes(%x, %x) is %v, %d", c[0], c[1], l, e)
			}
		}
	}
}

// P7.3
func TestClassesOfTheChapter(t *testing.T) {
	a, b := suits, exchanged(suits, north, east)
	for _, c := range []struct {
		l    []api.Deal
		want []int
	}{
		{nil, nil},
		{[]api.Deal{}, nil},
		{[]api.Deal{a}, []int{0}},
		{[]api.Deal{a, b}, []int{0, 1}},
		{[]api.Deal{a, b, a}, []int{0, 1, 0}},
		{[]api.Deal{b, b, a, b, a, a}, []int{0, 0, 2, 0, 2, 2}},
	} {
		if l, e := board.Classes(c.l); e != api.OK || !slices.Equal(l, c.want) {
			t.Errorf("the classes of %x are %v, %d", c.l, l, e)
		}
	}
}

// P7.3: two deals are the same only if all hands are.
func TestClassesLookAtAllHands(t *testing.T) {
	l := []api.Deal{suits}
	want := []int{0}
	for one := range 4 {
		for two := range one {
			l = append(l, exchanged(suits, one, two))
			want = append(want, len(want))
		}
	}
	for i, d := range slices.Clone(l) {
		l = append(l, d)
		want = append(want, i)
	}
	if got, e := board.Classes(l); e != api.OK || !slices.Equal(got, want) {
		t.Errorf("the classes are %v, %d", got, e)
	}
}

// P7.3
func TestClassesOfAllLengths(t *testing.T) {
	draw := rand.New(rand.NewSource(73))
	some := rights()
	for n := range 25 {
		for kinds := 1; kinds <= len(some); kinds++ {
			l := make([]api.Deal, n)
			want := make([]int, n)
			for i := range l {
				l[i] = some[draw.Intn(kinds)]
				want[i] = slices.Index(l, l[i])
			}
			if got, e := board.Classes(l); e != api.OK || !slices.Equal(got, want) {
				t.Fatalf("the classes of %x are %v, %d, not %v", l, got, e, want)
			}
		}
	}
}

// P7.3
func TestClassesErrors(t *testing.T) {
	full := slices.Repeat([]api.Deal{suits}, 24)
	if l, e := board.Classes(full); len(l) != 24 || e != api.OK {
		t.Errorf("24 deals have the classes %v, %d", l, e)
	}
	for _, n := range []int{25, 26, 128, 1 << 12} {
		many := slices.Repeat([]api.Deal{suits}, n)
		if l, e := board.Classes(many); len(l) != 0 || e != api.ErrMany {
			t.Errorf("%d deals have the classes %v, %d", n, l, e)
		}
		many[0] = api.Deal{}
		if l, e := board.Classes(many); len(l) != 0 || e != api.ErrMany {
			t.Errorf("%d deals, one of them not right, have the classes %v, %d", n, l, e)
		}
	}
	for _, d := range notRights() {
		for n := 1; n <= 24; n++ {
			for i := range n {
				l := slices.Clone(full[:n])
				l[i] = d
				if got, e := board.Classes(l); len(got) != 0 || e != deal.ErrDeal {
					t.Fatalf("the classes of %x are %v, %d", l, got, e)
				}
			}
		}
		if got, e := board.Classes([]api.Deal{suits, d, d}); len(got) != 0 || e != deal.ErrDeal {
			t.Errorf("the classes with %x twice are %v, %d", d, got, e)
		}
	}
}

// R3: lists stay as they are, and results are memory of their own.
func TestResultsShareNothing(t *testing.T) {
	room := rights()
	before := slices.Clone(room)
	one, _ := board.Classes(room[:20])
	two, _ := board.Classes(room[:20])
	if !slices.Equal(room, before) {
		t.Error("the list is another one")
	}
	one[3] = -1
	if two[3] != 3 {
		t.Error("two results share memory")
	}
	there, _ := board.Changes(suits, deal.Turn(suits, 1))
	again, _ := board.Changes(suits, deal.Turn(suits, 1))
	there[0].Card = 99
	if again[0].Card != 0 {
		t.Error("two lists of changes share memory")
	}
}
