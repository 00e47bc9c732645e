package deal_test

import (
	"math"
	"math/bits"
	"math/rand"
	"strings"
	"testing"

	"finesse/api"
	"finesse/card"
	"finesse/deal"
)

const (
	all   uint64 = 1<<52 - 1
	clubs uint64 = 1<<13 - 1
)

// suits is the deal in which each seat has a suit, in their order.
var suits = api.Deal{clubs, clubs << 13, clubs << 26, clubs << 39}

const suitsText = "N:...AKQJT98765432 ..AKQJT98765432. .AKQJT98765432.. AKQJT98765432..."

// dealt returns a right deal of a random order of the cards.
func dealt(draw *rand.Rand) api.Deal {
	var d api.Deal
	for i, c := range draw.Perm(52) {
		d[i/13] |= 1 << c
	}
	return d
}

// without returns a deal that lacks some of the cards.
func without(d api.Deal, cards uint64) api.Deal {
	for seat := range d {
		d[seat] &^= cards
	}
	return d
}

// alone returns a deal in which one seat has cards.
func alone(seat int, hand uint64) api.Deal {
	var d api.Deal
	d[seat] = hand
	return d
}

// randomCards returns a set of so many cards.
func randomCards(draw *rand.Rand, n int) uint64 {
	var m uint64
	for _, c := range draw.Perm(52)[:n] {
		m |= 1 << c
	}
	return m
}

// partials returns partial deals with all numbers of cards left, and some with hands that are empty or full.
func partials() []api.Deal {
	draw := rand.New(rand.NewSource(6))
	l := []api.Deal{{}, suits}
	for n := range 53 {
		for range 4 {
			l = append(l, without(dealt(draw), randomCards(draw, n)))
		}
	}
	for hands := range 16 {
		d := dealt(draw)
		for seat := range d {
			if hands>>seat&1 == 1 {
				d[seat] = 0
			}
		}
		l = append(l, d)
	}
	for c := range 52 {
		l = append(l, alone(c%4, 1<<c), without(suits, 1<<c))
	}
	return l
}

// notPartial returns deals that are not partial: each has one fault, or several.
func notPartial() []api.Deal {
	draw := rand.New(rand.NewSource(66))
	var l []api.Deal
	for seat := range 4 {
		for b := 52; b < 64; b++ {
			l = append(l, alone(seat, 1<<b))
			high := suits
			high[seat] |= 1 << b
			l = append(l, high)
			high[seat] &^= 1 << (13 * seat)
			l = append(l, high)
		}
		l = append(l, alone(seat, 1<<14-1), alone(seat, all), alone(seat, 1<<64-1))
		l = append(l, alone(seat, randomCards(draw, 14)))
		// A hand has 14 cards, as the next one has given it one of its cards, or the only one that it had.
		next := (seat + 1) % 4
		given := uint64(1) << (13 * next)
		more, only := without(suits, given), suits
		only[next] = 0
		more[seat] |= given
		only[seat] |= given
		l = append(l, more, only)
		for second := range seat {
			for c := range 52 {
				var twice api.Deal
				twice[seat], twice[second] = 1<<c, 1<<c
				l = append(l, twice)
			}
			same := suits
			same[seat] = same[second]
			l = append(l, same)
			shared := suits
			shared[seat] = shared[seat]&^(1<<(13*seat+4)) | 1<<(13*second+12)
			l = append(l, shared)
		}
	}
	return append(l, api.Deal{1<<64 - 1, 1<<64 - 1, 1<<64 - 1, 1<<64 - 1}, api.Deal{clubs, clubs, clubs, clubs}, api.Deal{all, 0, 0, 0}, api.Deal{1, 0, 0, 1 << 52})
}

// anyDeals returns deals with arbitrary contents.
func anyDeals() []api.Deal {
	draw := rand.New(rand.NewSource(666))
	l := append(partials(), notPartial()...)
	for range 200 {
		l = append(l, api.Deal{draw.Uint64(), draw.Uint64(), draw.Uint64(), draw.Uint64()})
		l = append(l, api.Deal{draw.Uint64() & draw.Uint64(), draw.Uint64() & draw.Uint64() & draw.Uint64(), 0, draw.Uint64() & 0xff})
	}
	return l
}

// P6.1
func TestPartial(t *testing.T) {
	for _, d := range partials() {
		if !deal.Partial(d) {
			t.Errorf("%x is not partial", d)
		}
	}
	for _, d := range notPartial() {
		if deal.Partial(d) {
			t.Errorf("%x is partial", d)
		}
	}
}

// P6.1
func TestRight(t *testing.T) {
	draw := rand.New(rand.NewSource(61))
	for range 300 {
		d := dealt(draw)
		if !deal.Right(d) {
			t.Errorf("%x is not right", d)
		}
		c := uint64(1) << draw.Intn(52)
		if deal.Right(without(d, c)) {
			t.Errorf("%x without a card is right", d)
		}
		for seat := range d {
			high := without(d, c)
			high[seat] |= 1 << (52 + draw.Intn(12))
			if deal.Right(high) {
				t.Errorf("%x is right", high)
			}
		}
		one, two := draw.Intn(4), draw.Intn(4)
		moved := uint64(1) << (bits.Len64(d[one]) - 1)
		other := without(d, moved)
		other[two] |= moved
		if deal.Right(other) != (one == two) {
			t.Errorf("%x is right: %t", other, one != two)
		}
	}
	for _, d := range partials() {
		if deal.Right(d) != (bits.OnesCount64(d[0]|d[1]|d[2]|d[3]) == 52) {
			t.Errorf("%x is right: %t", d, deal.Right(d))
		}
	}
	for _, d := range notPartial() {
		if deal.Right(d) {
			t.Errorf("%x is right", d)
		}
	}
}

// P6.1
func TestLeft(t *testing.T) {
	for _, p := range partials() {
		m, e := deal.Left(p)
		if e != api.OK {
			t.Errorf("Left(%x) is the error %d", p, e)
		}
		for c := range 64 {
			want := c < 52
			for _, hand := range p {
				want = want && hand>>c&1 == 0
			}
			if m>>c&1 == 1 != want {
				t.Errorf("the bit %d is left by %x: %t", c, p, !want)
			}
		}
	}
	for _, d := range notPartial() {
		if m, e := deal.Left(d); m != 0 || e != deal.ErrDeal {
			t.Errorf("Left(%x) is %x, %d", d, m, e)
		}
	}
	if deal.ErrDeal != 60 || deal.ErrText != 61 {
		t.Error("the errors have other numbers")
	}
}

// P6.1: for any deal, and all numbers.
func TestOwner(t *testing.T) {
	for _, d := range anyDeals() {
		for c := range 256 {
			seat, some := deal.Owner(d, uint8(c))
			var want uint8
			found := false
			for i := 3; i >= 0; i-- {
				if c < 52 && d[i]&(1<<c) != 0 {
					want, found = uint8(i), true
				}
			}
			if seat != want || some != found {
				t.Fatalf("Owner(%x, %d) is %d, %t", d, c, seat, some)
			}
		}
	}
	for c := range uint8(52) {
		if seat, some := deal.Owner(suits, c); seat != c/13 || !some {
			t.Errorf("the owner of %d is %d, %t", c, seat, some)
		}
	}
	for c := 52; c < 256; c++ {
		if seat, some := deal.Owner(api.Deal{0, 1<<64 - 1, 0, 1<<64 - 1}, uint8(c)); seat != 0 || some {
			t.Errorf("the owner of %d is %d, %t", c, seat, some)
		}
	}
}

// P6.5
func TestTurn(t *testing.T) {
	steps := []int{math.MinInt, math.MinInt + 1, math.MinInt + 2, math.MinInt + 3, math.MaxInt, math.MaxInt - 1, math.MaxInt - 2, math.MaxInt - 3, 1 << 32, 1<<32 + 1, -1 << 32, 1<<62 + 2, -1<<62 - 1}
	for k := -260; k <= 260; k++ {
		steps = append(steps, k)
	}
	for _, d := range append(anyDeals(), api.Deal{1, 2, 3, 4}) {
		for _, k := range steps {
			turned := deal.Turn(d, k)
			on := (k%4 + 4) % 4
			for seat, hand := range d {
				if turned[(seat+on)%4] != hand {
					t.Fatalf("Turn(%x, %d) is %x", d, k, turned)
				}
			}
		}
	}
	if turned := deal.Turn(suits, 1); turned != (api.Deal{suits[3], suits[0], suits[1], suits[2]}) {
		t.Errorf("a turn by 1 leads to %x", turned)
	}
	if turned := deal.Turn(suits, -1); turned != (api.Deal{suits[1], suits[2], suits[3], suits[0]}) {
		t.Errorf("a turn by -1 leads to %x", turned)
	}
}

// P6.7
func TestTurnsLeadBack(t *testing.T) {
	for _, d := range anyDeals() {
		turned := d
		for range 4 {
			turned = deal.Turn(turned, 1)
			if deal.Partial(turned) != deal.Partial(d) || deal.Right(turned) != deal.Right(d) {
				t.Fatalf("%x turned to %x is another deal", d, turned)
			}
		}
		if turned != d || deal.Turn(deal.Turn(d, 3), -3) != d {
			t.Fatalf("%x does not come back", d)
		}
	}
}

// P6.6
func TestTextsOfTheChapter(t *testing.T) {
	for _, c := range []struct {
		d    api.Deal
		text string
	}{
		{suits, suitsText},
		{api.Deal{}, "N:... ... ... ..."},
		{api.Deal{clubs, clubs << 13, clubs<<26&^(1<<38) | 1<<39, clubs<<39&^(1<<39) | 1<<38}, "N:...AKQJT98765432 ..AKQJT98765432. 2.KQJT98765432.. AKQJT9876543.A.."},
		{api.Deal{1 << 51, 1 << 26, 1 << 21, 1}, "N:A... .2.. ..T. ...2"},
		{api.Deal{0, 0, 0, 1<<51 | 1<<50 | 1<<25 | 1<<3}, "N:... ... ... AK..A.5"},
	} {
		if text, e := deal.Text(c.d); text != c.text || e != api.OK {
			t.Errorf("the text of %x is %q, %d", c.d, text, e)
		}
		if d, e := deal.Read(c.text); d != c.d || e != api.OK {
			t.Errorf("%q is read as %x, %d", c.text, d, e)
		}
	}
}

// P6.6
func TestTextAndReadAreOpposite(t *testing.T) {
	seen := map[string]api.Deal{}
	for _, p := range partials() {
		text, e := deal.Text(p)
		if e != api.OK {
			t.Fatalf("%x has no text: %d", p, e)
		}
		want := "N:"
		for seat, hand := range p {
			if seat > 0 {
				want += " "
			}
			part, _ := card.Write(hand)
			want += part
		}
		if text != want {
			t.Errorf("the text of %x is %q, not %q", p, text, want)
		}
		if other, some := seen[text]; some && other != p {
			t.Errorf("%x and %x have the same text", p, other)
		}
		seen[text] = p
		if d, e := deal.Read(text); d != p || e != api.OK {
			t.Errorf("%q is read as %x, %d", text, d, e)
		}
	}
	for _, d := range notPartial() {
		if text, e := deal.Text(d); text != "" || e != deal.ErrDeal {
			t.Errorf("the text of %x is %q, %d", d, text, e)
		}
	}
}

// notTexts returns strings that are no text of a partial deal.
func notTexts() []string {
	l := []string{
		"", "N", "N:", ":", " ", "N: ", "N:   ", "N:...", "N:... ...", "N:... ... ...", "N:... ... ... ", "N:... ... ... ... ", "N:... ... ... ... ...", " N:... ... ... ...",
		"N: ... ... ... ...", "N:...  ... ... ...", "N:... ... ... ...\n", "N:...\t...\t... ...", "N:............", "N:... ... ... ...\x00", "\x00N:... ... ... ...",
		"n:... ... ... ...", "E:... ... ... ...", "S:... ... ... ...", "W:... ... ... ...", "... ... ... ...", "NN:... ... ... ...", "N::... ... ... ...", "N ... ... ... ...", "N:N:... ... ... ...", ":... ... ... ...",
		"N:.. ... ... ...", "N:.... ... ... ...", "N:... ... ... ..", "N:... ... ... ....", "N:a... ... ... ...", "N:1... ... ... ...", "N:10... ... ... ...", "N:KA... ... ... ...", "N:AA... ... ... ...", "N:- ... ... ...",
		"N:A... A... ... ...", "N:A... ... A... ...", "N:A... ... ... A...", "N:... A... A... ...", "N:... A... ... A...", "N:... ... A... A...", "N:... ...2 ... ...2",
		"N:AKQJT98765432.2.. ... ... ...", "N:... AKQJT98765432...2 ... ...", "N:... ... AKQJT98.AKQJT98.. ...", "N:... ... ... AKQJ.AKQJ.AKQJ.AK",
		suitsText[2:], "E:" + suitsText[2:], suitsText + " ", " " + suitsText, suitsText + " ...", suitsText + suitsText, suitsText + "\n" + suitsText,
		"N:...AKQJT98765432 ..AKQJT98765432. .AKQJT98765432.. AKQJT98765432...2",
	}
	return append(l, strings.Repeat(" ", 1<<16), "N:"+strings.Repeat("... ", 1<<16), "N:"+strings.Repeat(".", 1<<16), "N:... ... ... "+strings.Repeat("A", 1<<16))
}

// P6.6
func TestStringsThatAreNoTexts(t *testing.T) {
	for _, s := range notTexts() {
		if d, e := deal.Read(s); d != (api.Deal{}) || e != deal.ErrText {
			t.Errorf("%.60q is read as %x, %d", s, d, e)
		}
	}
}

// P6.6: whatever is read has this string as its text.
func TestTextsWithOneChange(t *testing.T) {
	draw := rand.New(rand.NewSource(67))
	bytes := "N:. 23456789TJQKAakqjtnESW10\t\n\x00\xff"
	check := func(s string) {
		d, e := deal.Read(s)
		text, f := deal.Text(d)
		if e == api.OK && (text != s || f != api.OK) || e != api.OK && (d != api.Deal{} || e != deal.ErrText) {
			t.Fatalf("%q is read as %x, %d", s, d, e)
		}
	}
	for _, p := range append(partials()[:20], suits, without(dealt(draw), randomCards(draw, 20)), api.Deal{clubs, 1 << 14, 0, 1 << 30}) {
		text, _ := deal.Text(p)
		for i := range len(text) {
			check(text[:i])
			check(text[i:])
			check(text[:i] + text[i+1:])
			for j := range len(bytes) {
				check(text[:i] + bytes[j:j+1] + text[i:])
				check(text[:i] + bytes[j:j+1] + text[i+1:])
			}
		}
	}
}
