package hand_test

import (
	"fmt"
	"math/bits"
	"math/rand"
	"slices"
	"strings"
	"testing"

	"finesse/api"
	"finesse/hand"
)

const (
	all   uint64 = 1<<52 - 1
	clubs uint64 = 1<<13 - 1
)

// characters are the ranks from the two to the ace.
const characters = "23456789TJQKA"

// of returns the set with a text: the ranks of the spades, hearts, diamonds and clubs with a point between two.
func of(t *testing.T, s string) uint64 {
	t.Helper()
	parts := strings.Split(s, ".")
	if len(parts) != 4 {
		t.Fatalf("%q has not four suits", s)
	}
	var m uint64
	for i, part := range parts {
		m |= ranksOf(part) << (13 * (3 - i))
	}
	return m
}

func ranksOf(part string) uint64 {
	var m uint64
	for _, r := range part {
		m |= 1 << strings.IndexRune(characters, r)
	}
	return m
}

// written returns the ranks of a holding as characters, from the ace down.
func written(holding uint64) string {
	s := ""
	for rank := 12; rank >= 0; rank-- {
		if holding>>rank&1 == 1 {
			s += characters[rank : rank+1]
		}
	}
	return s
}

// value is what one suit counts in the chapter's words.
type value struct{ points, controls, losers, quick int }

func (v value) plus(w value) value {
	return value{v.points + w.points, v.controls + w.controls, v.losers + w.losers, v.quick + w.quick}
}

// suitValue is what a suit with these ranks counts, looked up by its honours and its length.
func suitValue(s string) value {
	ace, king, queen, jack := strings.Count(s, "A"), strings.Count(s, "K"), strings.Count(s, "Q"), strings.Count(s, "J")
	v := value{points: 4*ace + 3*king + 2*queen + jack, controls: 2*ace + king}
	v.losers = min(len(s), 3)
	if len(s) >= 1 {
		v.losers -= ace
	}
	if len(s) >= 2 {
		v.losers -= king
	}
	if len(s) >= 3 {
		v.losers -= queen
	}
	v.quick = map[[3]int]int{{1, 1, 1}: 4, {1, 1, 0}: 4, {1, 0, 1}: 3, {1, 0, 0}: 2, {0, 1, 1}: 2, {0, 1, 0}: 1}[[3]int{ace, king, queen}]
	if s == "K" {
		v.quick = 0
	}
	return v
}

// handValue is the sum of what the suits count.
func handValue(m uint64) value {
	var v value
	for suit := range 4 {
		v = v.plus(suitValue(written(m >> (13 * suit) & clubs)))
	}
	return v
}

func valued(m uint64) value {
	return value{hand.Points(m), hand.Controls(m), hand.Losers(m), hand.Quick(m)}
}

// sets are sets of cards of all sizes without a pattern, and some with few and with nearly all cards.
func sets() []uint64 {
	l := []uint64{0, all, clubs, clubs << 13, clubs << 26, clubs << 39}
	for c := range 52 {
		l = append(l, 1<<c, all&^(1<<c), 1<<c-1)
	}
	draw := rand.New(rand.NewSource(5))
	for size := range 53 {
		for range 40 {
			l = append(l, taken(draw.Perm(52)[:size]))
		}
	}
	for range 1000 {
		l = append(l, taken(draw.Perm(52)[:13]))
	}
	return l
}

func taken(cards []int) uint64 {
	var m uint64
	for _, c := range cards {
		m |= 1 << c
	}
	return m
}

// highBits are masks of bits from 1 << 52 on.
func highBits() []uint64 {
	l := []uint64{^all, 1<<52 | 1<<63, 0xff << 52}
	for b := 52; b < 64; b++ {
		l = append(l, 1<<b)
	}
	return l
}

// exchanged returns a set whose suits are exchanged: the suit i goes where places has it.
func exchanged(m uint64, places []int) uint64 {
	var other uint64
	for suit, place := range places {
		other |= m >> (13 * suit) & clubs << (13 * place)
	}
	return other
}

// orders returns all orders of the four suits.
func orders() [][]int {
	var l [][]int
	for n := range 256 {
		places := []int{n & 3, n >> 2 & 3, n >> 4 & 3, n >> 6}
		if 1<<places[0]|1<<places[1]|1<<places[2]|1<<places[3] == 15 {
			l = append(l, places)
		}
	}
	return l
}

// P5.1, P5.2
func TestHandsOfTheChapter(t *testing.T) {
	for _, c := range []struct {
		text     string
		want     value
		shape    [4]int
		pattern  string
		suits    [4]uint8
		right    bool
		balanced bool
	}{
		{"AKT94.Q83..T9532", value{9, 3, 6, 4}, [4]int{5, 0, 3, 5}, "5-5-3-0", [4]uint8{3, 0, 2, 1}, true, false},
		{"K2.KQ3.A.AQJ5432", value{19, 6, 3, 8}, [4]int{7, 1, 3, 2}, "7-3-2-1", [4]uint8{0, 2, 3, 1}, true, false},
		{"AKQJT98765432.AKQJT98765432.AKQJT98765432.AKQJT98765432", value{40, 12, 0, 16}, [4]int{13, 13, 13, 13}, "13-13-13-13", [4]uint8{3, 2, 1, 0}, false, false},
		{"...", value{0, 0, 0, 0}, [4]int{}, "0-0-0-0", [4]uint8{3, 2, 1, 0}, false, false},
		{".AKQJT98765432..", value{10, 3, 0, 4}, [4]int{0, 0, 13, 0}, "13-0-0-0", [4]uint8{2, 3, 1, 0}, true, false},
		{"432.432.432.5432", value{0, 0, 12, 0}, [4]int{4, 3, 3, 3}, "4-3-3-3", [4]uint8{0, 3, 2, 1}, true, true},
		{"AJ.KQ.JT987.QJT9", value{14, 3, 7, 4}, [4]int{4, 5, 2, 2}, "5-4-2-2", [4]uint8{1, 0, 3, 2}, true, false},
	} {
		m := of(t, c.text)
		if v := valued(m); v != c.want {
			t.Errorf("%s counts %+v, not %+v", c.text, v, c.want)
		}
		if hand.Shape(m) != c.shape || hand.Pattern(m) != c.pattern || hand.Suits(m) != c.suits {
			t.Errorf("%s has the shape %v, the pattern %s, the suits %v", c.text, hand.Shape(m), hand.Pattern(m), hand.Suits(m))
		}
		if hand.Right(m) != c.right || hand.Balanced(m) != c.balanced {
			t.Errorf("%s is right: %t, balanced: %t", c.text, hand.Right(m), hand.Balanced(m))
		}
	}
}

// P5.1
func TestRight(t *testing.T) {
	for _, m := range sets() {
		if hand.Right(m) != (bits.OnesCount64(m) == 13) {
			t.Errorf("Right(%#x) is %t", m, hand.Right(m))
		}
		for _, high := range highBits() {
			if hand.Right(m | high) {
				t.Errorf("Right(%#x) is true", m|high)
			}
		}
	}
	for b := 52; b < 64; b++ {
		if m := uint64(1<<12 - 1 | 1<<b); hand.Right(m) {
			t.Errorf("12 cards and the bit %d are right", b)
		}
	}
	if hand.Right(1<<64-1) || hand.Right(clubs<<51) || !hand.Right(clubs<<39) {
		t.Error("13 bits are right unless they are cards, or others are not")
	}
}

// P5.1: every holding of every suit, alone.
func TestValuesOfASuit(t *testing.T) {
	for holding := range uint64(1 << 13) {
		want := suitValue(written(holding))
		for suit := range 4 {
			if v := valued(holding << (13 * suit)); v != want {
				t.Fatalf("%s in the suit %d counts %+v, not %+v", written(holding), suit, v, want)
			}
		}
	}
}

// P5.1
func TestSuitsOfEachKind(t *testing.T) {
	for _, c := range []struct {
		suit string
		want value
	}{
		{"", value{0, 0, 0, 0}}, {"A", value{4, 2, 0, 2}}, {"K", value{3, 1, 1, 0}}, {"Q", value{2, 0, 1, 0}}, {"J", value{1, 0, 1, 0}}, {"2", value{0, 0, 1, 0}},
		{"AK", value{7, 3, 0, 4}}, {"AQ", value{6, 2, 1, 3}}, {"A2", value{4, 2, 1, 2}}, {"KQ", value{5, 1, 1, 2}}, {"KJ", value{4, 1, 1, 1}}, {"K2", value{3, 1, 1, 1}}, {"QJ", value{3, 0, 2, 0}}, {"32", value{0, 0, 2, 0}},
		{"AKQ", value{9, 3, 0, 4}}, {"AK2", value{7, 3, 1, 4}}, {"AQJ", value{7, 2, 1, 3}}, {"A32", value{4, 2, 2, 2}}, {"KQJ", value{6, 1, 1, 2}}, {"K32", value{3, 1, 2, 1}}, {"Q32", value{2, 0, 2, 0}}, {"JT9", value{1, 0, 3, 0}},
		{"AKQJ", value{10, 3, 0, 4}}, {"5432", value{0, 0, 3, 0}}, {"T98765432", value{0, 0, 3, 0}}, {"KT98765432", value{3, 1, 2, 1}}, {"AKQJT98765432", value{10, 3, 0, 4}},
	} {
		for suit := range 4 {
			if v := valued(ranksOf(c.suit) << (13 * suit)); v != c.want {
				t.Errorf("%q in the suit %d counts %+v, not %+v", c.suit, suit, v, c.want)
			}
		}
	}
}

// P5.1
func TestValuesAreSums(t *testing.T) {
	for _, m := range sets() {
		if v, want := valued(m), handValue(m); v != want {
			t.Errorf("%#x counts %+v, not %+v", m, v, want)
		}
	}
}

// P5.2
func TestShape(t *testing.T) {
	for _, m := range sets() {
		var want [4]int
		for suit := range 4 {
			want[suit] = len(written(m >> (13 * suit) & clubs))
		}
		if shape := hand.Shape(m); shape != want {
			t.Errorf("Shape(%#x) is %v, not %v", m, shape, want)
		}
		sorted := want[:]
		slices.Sort(sorted)
		if s := fmt.Sprintf("%d-%d-%d-%d", sorted[3], sorted[2], sorted[1], sorted[0]); hand.Pattern(m) != s {
			t.Errorf("Pattern(%#x) is %s, not %s", m, hand.Pattern(m), s)
		}
	}
}

// lengths returns a set whose suits have these lengths.
func lengths(shape [4]int) uint64 {
	var m uint64
	for suit, n := range shape {
		m |= (1<<n - 1) << (13 * suit)
	}
	return m
}

// P5.2: all shapes of all sets.
func TestSuits(t *testing.T) {
	for n := range 14 * 14 * 14 * 14 {
		shape := [4]int{n % 14, n / 14 % 14, n / 14 / 14 % 14, n / 14 / 14 / 14}
		order := hand.Suits(lengths(shape))
		var seen [4]bool
		for place, suit := range order {
			if suit > 3 || seen[suit] {
				t.Fatalf("the suits of %v are %v", shape, order)
			}
			seen[suit] = true
			if place == 0 {
				continue
			}
			before := order[place-1]
			if shape[before] < shape[suit] || shape[before] == shape[suit] && before < suit {
				t.Fatalf("the suits of %v are %v", shape, order)
			}
		}
	}
}

// P5.2: all shapes of 13 cards, and of one card less and one more.
func TestBalanced(t *testing.T) {
	balanced := 0
	for n := range 14 * 14 * 14 {
		shape := [4]int{n % 14, n / 14 % 14, n / 14 / 14, 0}
		for _, size := range []int{12, 13, 14} {
			shape[3] = size - shape[0] - shape[1] - shape[2]
			if shape[3] < 0 || shape[3] > 13 {
				continue
			}
			sorted := shape
			slices.Sort(sorted[:])
			want := size == 13 && (sorted == [4]int{3, 3, 3, 4} || sorted == [4]int{2, 3, 4, 4} || sorted == [4]int{2, 3, 3, 5})
			m := lengths(shape)
			if hand.Balanced(m) != want {
				t.Errorf("the shape %v is balanced: %t", shape, !want)
			}
			if want {
				balanced++
			}
			for _, high := range highBits() {
				if hand.Balanced(m | high) {
					t.Errorf("the shape %v with %#x is balanced", shape, high)
				}
			}
		}
	}
	if balanced != 4+12+12 {
		t.Errorf("%d shapes are balanced", balanced)
	}
	if hand.Balanced(0) || hand.Balanced(all) || hand.Balanced(1<<64-1) {
		t.Error("none or all cards are balanced")
	}
}

// P5.3
func TestHolding(t *testing.T) {
	for _, m := range sets() {
		for suit := range 256 {
			var want uint16
			for rank := range 13 {
				if suit < 4 && m>>(13*suit+rank)&1 == 1 {
					want |= 1 << rank
				}
			}
			if h := hand.Holding(m, uint8(suit)); h != want {
				t.Errorf("Holding(%#x, %d) is %#x, not %#x", m, suit, h, want)
			}
		}
	}
	m := of(t, "AK2.Q..32")
	for suit, want := range []uint16{api.Clubs: 1<<1 | 1, api.Diamonds: 0, api.Hearts: 1 << 10, api.Spades: 1<<12 | 1<<11 | 1, 4: 0} {
		if h := hand.Holding(m, uint8(suit)); h != want {
			t.Errorf("AK2.Q..32 has %#x in the suit %d", h, suit)
		}
	}
}

// P5.1 to P5.3: bits that are no cards count nothing.
func TestOtherBitsAreIgnored(t *testing.T) {
	for i, m := range sets() {
		if i%7 != 0 {
			continue
		}
		for _, high := range highBits() {
			other := m | high
			if valued(other) != valued(m) || hand.Shape(other) != hand.Shape(m) || hand.Pattern(other) != hand.Pattern(m) || hand.Suits(other) != hand.Suits(m) {
				t.Fatalf("%#x is not as %#x", other, m)
			}
			for suit := range 256 {
				if hand.Holding(other, uint8(suit)) != hand.Holding(m, uint8(suit)) {
					t.Fatalf("%#x has not the suit %d of %#x", other, suit, m)
				}
			}
		}
	}
	if h := hand.Holding(1<<64-1, api.Spades); h != 1<<13-1 {
		t.Errorf("all bits have the spades %#x", h)
	}
}

// P5.4
func TestSuitsMayBeExchanged(t *testing.T) {
	l := orders()
	if len(l) != 24 {
		t.Fatalf("there are %d orders", len(l))
	}
	for _, m := range sets() {
		for _, places := range l {
			other := exchanged(m, places)
			if valued(other) != valued(m) || hand.Pattern(other) != hand.Pattern(m) || hand.Right(other) != hand.Right(m) || hand.Balanced(other) != hand.Balanced(m) {
				t.Fatalf("%#x is not as %#x", other, m)
			}
		}
	}
}

// P5.4
func TestHandsOfADeal(t *testing.T) {
	draw := rand.New(rand.NewSource(54))
	for range 500 {
		cards := draw.Perm(52)
		points, controls := 0, 0
		var shape [4]int
		for seat := range 4 {
			m := taken(cards[13*seat : 13*seat+13])
			points, controls = points+hand.Points(m), controls+hand.Controls(m)
			for suit, n := range hand.Shape(m) {
				shape[suit] += n
			}
		}
		if points != 40 || controls != 12 || shape != [4]int{13, 13, 13, 13} {
			t.Fatalf("a deal has %d points, %d controls and the shape %v", points, controls, shape)
		}
	}
}

// P5.4
func TestOneCardMore(t *testing.T) {
	for _, m := range sets() {
		v := valued(m)
		for c := range 52 {
			more := valued(m | 1<<c)
			if more.points < v.points || more.controls < v.controls || more.quick < v.quick {
				t.Fatalf("%#x counts %+v, and with the card %d %+v", m, v, c, more)
			}
		}
	}
}

// P5.4
func TestBoundsOfLosers(t *testing.T) {
	for _, m := range sets() {
		least := 0
		for suit := range uint8(4) {
			h := hand.Holding(m, suit)
			if n := bits.OnesCount16(h); n >= 3 {
				least += 3 - bits.OnesCount16(h>>10)
			}
		}
		if n := hand.Losers(m); n > 12 || n < least {
			t.Errorf("%#x has %d losers", m, n)
		}
	}
}
