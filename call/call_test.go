package call_test

import (
	"testing"

	"finesse/api"
	"finesse/call"
)

// words has the string of each call, put together apart from the package.
var words = allWords()

func allWords() []string {
	l := []string{"P", "X", "XX"}
	for level := 1; level <= 7; level++ {
		for _, denom := range []string{"C", "D", "H", "S", "NT"} {
			l = append(l, string(rune('0'+level))+denom)
		}
	}
	return l
}

// first is the lowest bid, last the highest one.
const (
	first = 3
	last  = 37
)

// cheapest looks for the least bid of a denomination among all that are greater than a call; 0 if there is none.
func cheapest(over, denom int) int {
	for bid := first; bid <= last; bid++ {
		if bid > over && (bid-first)%5 == denom {
			return bid
		}
	}
	return 0
}

func TestNumbers(t *testing.T) {
	if call.ErrCall != 80 || call.ErrText != 81 || call.MaxCalls != 319 {
		t.Errorf("the errors are %d, %d, and an auction has %d calls", call.ErrCall, call.ErrText, call.MaxCalls)
	}
}

// P8.1
func TestRight(t *testing.T) {
	for c := range 256 {
		if call.Right(uint8(c)) != (c <= 37) {
			t.Errorf("Right(%d) is %t", c, c > 37)
		}
	}
}

// P8.1
func TestBid(t *testing.T) {
	for level := range 256 {
		for denom := range 256 {
			want, wrong := uint8(3+5*(level-1)+denom), api.OK
			if level < 1 || level > 7 || denom > 4 {
				want, wrong = 0, api.ErrArg
			}
			if c, e := call.Bid(uint8(level), uint8(denom)); c != want || e != wrong {
				t.Errorf("Bid(%d, %d) is %d, %d, not %d, %d", level, denom, c, e, want, wrong)
			}
		}
	}
	for _, c := range []struct{ level, denom, want uint8 }{{1, 0, 3}, {7, 4, 37}, {3, 2, 15}} {
		if bid, e := call.Bid(c.level, c.denom); bid != c.want || e != api.OK {
			t.Errorf("Bid(%d, %d) is %d, %d, not %d", c.level, c.denom, bid, e, c.want)
		}
	}
}

// P8.1
func TestParts(t *testing.T) {
	for c := range 256 {
		var wantLevel, wantDenom uint8
		some := false
		for level := uint8(1); level <= 7; level++ {
			for denom := range uint8(5) {
				if int(3+5*(level-1)+denom) == c {
					wantLevel, wantDenom, some = level, denom, true
				}
			}
		}
		if level, denom, is := call.Parts(uint8(c)); level != wantLevel || denom != wantDenom || is != some {
			t.Errorf("Parts(%d) is %d, %d, %t, not %d, %d, %t", c, level, denom, is, wantLevel, wantDenom, some)
		}
	}
	if level, denom, is := call.Parts(15); level != 3 || denom != api.Hearts || !is {
		t.Errorf("Parts(15) is %d, %d, %t", level, denom, is)
	}
	for _, c := range []uint8{api.Pass, api.Double, api.Redouble, api.MaxCall + 1, 255} {
		if level, denom, is := call.Parts(c); level != 0 || denom != 0 || is {
			t.Errorf("Parts(%d) is %d, %d, %t", c, level, denom, is)
		}
	}
}

// P8.4
func TestCheapest(t *testing.T) {
	for over := range 256 {
		for denom := range 256 {
			want, wrong := 0, api.OK
			switch {
			case over > last:
				wrong = call.ErrCall
			case denom > 4:
				wrong = api.ErrArg
			default:
				want = cheapest(over, denom)
				if want == 0 {
					wrong = api.ErrNone
				}
			}
			if bid, e := call.Cheapest(uint8(over), uint8(denom)); int(bid) != want || e != wrong {
				t.Errorf("Cheapest(%d, %d) is %d, %d, not %d, %d", over, denom, bid, e, want, wrong)
			}
		}
	}
}

// P8.4: over a call that is no bid, the cheapest bids are those of level 1; over 7NT there are none.
func TestCheapestOfTheChapter(t *testing.T) {
	for _, c := range []struct {
		over, denom, want uint8
		wrong             api.Errno
	}{
		{15, 1, 19, api.OK}, {15, 3, 16, api.OK}, {15, 2, 20, api.OK}, {2, 4, 7, api.OK},
		{0, 0, 3, api.OK}, {1, 0, 3, api.OK}, {2, 0, 3, api.OK}, {0, 4, 7, api.OK}, {1, 4, 7, api.OK},
		{36, 4, 37, api.OK}, {36, 3, 0, api.ErrNone}, {32, 4, 37, api.OK}, {33, 0, 0, api.ErrNone},
		{37, 0, 0, api.ErrNone}, {37, 1, 0, api.ErrNone}, {37, 2, 0, api.ErrNone}, {37, 3, 0, api.ErrNone}, {37, 4, 0, api.ErrNone},
		{38, 5, 0, call.ErrCall}, {255, 255, 0, call.ErrCall}, {255, 0, 0, call.ErrCall}, {37, 5, 0, api.ErrArg}, {0, 255, 0, api.ErrArg},
	} {
		if bid, e := call.Cheapest(c.over, c.denom); bid != c.want || e != c.wrong {
			t.Errorf("Cheapest(%d, %d) is %d, %d, not %d, %d", c.over, c.denom, bid, e, c.want, c.wrong)
		}
	}
}

// P8.4
func TestJump(t *testing.T) {
	for over := range 256 {
		for bid := range 256 {
			want, wrong := 0, api.OK
			switch {
			case over > last || bid < first || bid > last:
				wrong = call.ErrCall
			case bid <= over:
				wrong = api.ErrNone
			default:
				for lower := bid - 5; lower > over && lower >= first; lower -= 5 {
					want++
				}
			}
			if n, e := call.Jump(uint8(over), uint8(bid)); n != want || e != wrong {
				t.Errorf("Jump(%d, %d) is %d, %d, not %d, %d", over, bid, n, e, want, wrong)
			}
		}
	}
}

// P8.4
func TestJumpOfTheChapter(t *testing.T) {
	for _, c := range []struct {
		over, bid uint8
		want      int
		wrong     api.Errno
	}{
		{15, 19, 0, api.OK}, {15, 24, 1, api.OK}, {15, 16, 0, api.OK}, {15, 15, 0, api.ErrNone}, {15, 20, 0, api.OK}, {15, 25, 1, api.OK}, {15, 14, 0, api.ErrNone},
		{0, 3, 0, api.OK}, {0, 37, 6, api.OK}, {2, 8, 1, api.OK}, {3, 37, 6, api.OK}, {7, 37, 5, api.OK}, {37, 37, 0, api.ErrNone}, {37, 3, 0, api.ErrNone},
		{0, 0, 0, call.ErrCall}, {0, 2, 0, call.ErrCall}, {15, 2, 0, call.ErrCall}, {15, 38, 0, call.ErrCall}, {38, 3, 0, call.ErrCall}, {255, 255, 0, call.ErrCall}, {38, 0, 0, call.ErrCall},
	} {
		if n, e := call.Jump(c.over, c.bid); n != c.want || e != c.wrong {
			t.Errorf("Jump(%d, %d) is %d, %d, not %d, %d", c.over, c.bid, n, e, c.want, c.wrong)
		}
	}
}

// P8.5
func TestBidsFollowEachOther(t *testing.T) {
	var bids []uint8
	for level := range 256 {
		for denom := range 256 {
			if c, e := call.Bid(uint8(level), uint8(denom)); e == api.OK {
				bids = append(bids, c)
			}
		}
	}
	if len(bids) != 35 {
		t.Fatalf("there are %d bids", len(bids))
	}
	for i, c := range bids {
		if i > 0 && c != bids[i-1]+1 {
			t.Errorf("%d is followed by %d", bids[i-1], c)
		}
		level, denom, is := call.Parts(c)
		if back, e := call.Bid(level, denom); back != c || e != api.OK || !is {
			t.Errorf("the bid of the parts of %d is %d, %d", c, back, e)
		}
	}
	if bids[0] != first || bids[34] != last {
		t.Errorf("the bids are those from %d to %d", bids[0], bids[34])
	}
}

// P8.5: the cheapest bids over a bid are the next five, as far as there are any, and none of them is a jump.
func TestNextFiveBids(t *testing.T) {
	for over := uint8(first); over <= last; over++ {
		found := map[uint8]bool{}
		for denom := range uint8(5) {
			if bid, e := call.Cheapest(over, denom); e == api.OK {
				found[bid] = true
				if n, e := call.Jump(over, bid); n != 0 || e != api.OK {
					t.Errorf("Jump(%d, %d) is %d, %d", over, bid, n, e)
				}
			}
		}
		for bid := over + 1; bid <= last && bid <= over+5; bid++ {
			if !found[bid] {
				t.Errorf("%d is not among the cheapest bids over %d", bid, over)
			}
		}
		if want := min(5, last-over); len(found) != int(want) {
			t.Errorf("there are %d cheapest bids over %d, not %d", len(found), over, want)
		}
	}
}

// P8.5
func TestHigherBids(t *testing.T) {
	for a := uint8(first); a <= last; a++ {
		for b := uint8(first); b <= last; b++ {
			levelA, denomA, _ := call.Parts(a)
			levelB, denomB, _ := call.Parts(b)
			if higher := levelA > levelB || levelA == levelB && denomA > denomB; higher != (a > b) {
				t.Errorf("%d is higher than %d: %t", a, b, higher)
			}
			if _, e := call.Jump(b, a); (e == api.OK) != (a > b) {
				t.Errorf("Jump(%d, %d) ends with %d", b, a, e)
			}
		}
	}
}
