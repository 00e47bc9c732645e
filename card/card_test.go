package card_test

import (
	"math/bits"
	"math/rand"
	"slices"
	"strings"
	"testing"

	"finesse/api"
	"finesse/card"
)

// order is all cards in the order of cards.
const order = "SA SK SQ SJ ST S9 S8 S7 S6 S5 S4 S3 S2 " +
	"HA HK HQ HJ HT H9 H8 H7 H6 H5 H4 H3 H2 " +
	"DA DK DQ DJ DT D9 D8 D7 D6 D5 D4 D3 D2 " +
	"CA CK CQ CJ CT C9 C8 C7 C6 C5 C4 C3 C2"

const (
	all    uint64 = 1<<52 - 1
	clubs  uint64 = 1<<13 - 1
	spades        = clubs << 39
)

// text is the text of the card with a number: order has the greatest number first.
func text(c uint8) string { return strings.Fields(order)[51-c] }

// written is the text of a set, put together from the texts of its cards.
func written(m uint64) string {
	parts := map[byte]string{}
	for _, s := range strings.Fields(order) {
		if c := 51 - strings.Index(order, s)/3; m>>c&1 == 1 {
			parts[s[0]] += s[1:]
		}
	}
	return parts['S'] + "." + parts['H'] + "." + parts['D'] + "." + parts['C']
}

// listed is the cards of a set in the order of cards.
func listed(m uint64) []uint8 {
	var l []uint8
	for c := 51; c >= 0; c-- {
		if m>>c&1 == 1 {
			l = append(l, uint8(c))
		}
	}
	return l
}

// samples are right masks: few cards, nearly all, whole suits and parts of them, and sets of all sizes without a pattern.
func samples() []uint64 {
	l := []uint64{0, all, clubs, clubs << 13, clubs << 26, spades, clubs | spades, clubs<<13 | clubs<<26}
	for a := range 52 {
		l = append(l, 1<<a, all&^(1<<a), 1<<a-1, all>>a<<a)
		for b := range a {
			l = append(l, 1<<a|1<<b, all&^(1<<a|1<<b))
		}
	}
	draw := rand.New(rand.NewSource(4))
	for size := range 53 {
		for range 20 {
			var m uint64
			for _, c := range draw.Perm(52)[:size] {
				m |= 1 << c
			}
			l = append(l, m)
		}
	}
	return l
}

// wrongMasks are masks with a bit from 1 << 52 on.
func wrongMasks() []uint64 {
	l := []uint64{all + 1, all + 2, 1<<53 - 1, 1<<64 - 1, 1<<64 - 1 - all, 1<<63 | spades, 1<<52 | clubs}
	for c := 52; c < 64; c++ {
		l = append(l, 1<<c, 1<<c|1, 1<<c|all)
	}
	return l
}

func TestErrorNumbers(t *testing.T) {
	if card.ErrText != 40 || card.ErrCard != 41 || card.ErrTwice != 42 {
		t.Errorf("the errors are %d, %d, %d", card.ErrText, card.ErrCard, card.ErrTwice)
	}
}

// P4.1
func TestRight(t *testing.T) {
	for c := range 256 {
		if card.Right(uint8(c)) != (c < 52) {
			t.Errorf("Right(%d) is %t", c, c >= 52)
		}
	}
}

// P4.1
func TestOf(t *testing.T) {
	for suit := range 256 {
		for rank := range 256 {
			want, wrong := uint8(13*suit+rank), api.OK
			if suit > 3 || rank > 12 {
				want, wrong = 0, api.ErrArg
			}
			if c, e := card.Of(uint8(suit), uint8(rank)); c != want || e != wrong {
				t.Errorf("Of(%d, %d) is %d, %d, not %d, %d", suit, rank, c, e, want, wrong)
			}
		}
	}
	if c, e := card.Of(api.Spades, 12); c != 51 || e != api.OK {
		t.Errorf("Of(3, 12) is %d, %d", c, e)
	}
}

// P4.1
func TestSuitAndRank(t *testing.T) {
	for suit, letter := range "CDHS" {
		for rank, character := range "23456789TJQKA" {
			c, _ := card.Of(uint8(suit), uint8(rank))
			if s := string(letter) + string(character); s != text(c) {
				t.Errorf("Of(%d, %d) is %s, not %s", suit, rank, text(c), s)
			}
			if card.Suit(c) != uint8(suit) || card.Rank(c) != uint8(rank) {
				t.Errorf("%d has the suit %d and the rank %d, not %d, %d", c, card.Suit(c), card.Rank(c), suit, rank)
			}
		}
	}
	for c := 52; c < 256; c++ {
		if suit, rank := card.Suit(uint8(c)), card.Rank(uint8(c)); suit != 0 || rank != 0 {
			t.Errorf("%d has the suit %d and the rank %d", c, suit, rank)
		}
	}
}

// P4.2
func TestText(t *testing.T) {
	for c := range uint8(52) {
		if s, e := card.Text(c); s != text(c) || e != api.OK {
			t.Errorf("Text(%d) is %q, %d, not %q", c, s, e, text(c))
		}
	}
	for c := 52; c < 256; c++ {
		if s, e := card.Text(uint8(c)); s != "" || e != card.ErrCard {
			t.Errorf("Text(%d) is %q, %d", c, s, e)
		}
	}
}

// P4.2: of all strings of two bytes just the texts of the 52 cards are read.
func TestRead(t *testing.T) {
	found := 0
	for a := range 256 {
		for b := range 256 {
			s := string([]byte{byte(a), byte(b)})
			c, e := card.Read(s)
			if e == api.OK {
				found++
			}
			if e == api.OK && (!card.Right(c) || text(c) != s) || e != api.OK && (e != card.ErrText || c != 0) {
				t.Errorf("Read(%q) is %d, %d", s, c, e)
			}
		}
	}
	if found != 52 {
		t.Errorf("Read reads %d texts", found)
	}
	if c, e := card.Read("DT"); c != 21 || e != api.OK {
		t.Errorf("Read(DT) is %d, %d", c, e)
	}
}

// P4.2
func TestReadOfOtherStrings(t *testing.T) {
	for _, s := range []string{"", "S", "A", "dT", "Dt", "D10", "TD", "D1", "D0", "NT", "SA ", " SA", "S A", "SAA", "SASA", "S\x00", "♠A", "SA\x00", "SA\n", "sa", "N2", strings.Repeat("SA", 1000)} {
		if c, e := card.Read(s); c != 0 || e != card.ErrText {
			t.Errorf("Read(%q) is %d, %d", s, c, e)
		}
	}
	for c := range uint8(52) {
		s := text(c)
		for _, other := range []string{s[:1], s[1:], s + s[1:], s[:1] + s, strings.ToLower(s), s[1:] + s[:1]} {
			if got, e := card.Read(other); other != s && (got != 0 || e != card.ErrText) {
				t.Errorf("Read(%q) is %d, %d", other, got, e)
			}
		}
	}
}

// P4.3
func TestList(t *testing.T) {
	for _, m := range samples() {
		if l, e := card.List(m); !slices.Equal(l, listed(m)) || e != api.OK {
			t.Errorf("List(%#x) is %v, %d, not %v", m, l, e, listed(m))
		}
	}
	for _, m := range wrongMasks() {
		if l, e := card.List(m); len(l) != 0 || e != card.ErrCard {
			t.Errorf("List(%#x) is %v, %d", m, l, e)
		}
	}
}

// P4.3: lists share no memory with each other.
func TestListIsNew(t *testing.T) {
	first, _ := card.List(all)
	second, _ := card.List(all)
	clear(first)
	if !slices.Equal(second, listed(all)) {
		t.Errorf("a list became %v when another one was changed", second)
	}
}

// P4.3
func TestMask(t *testing.T) {
	draw := rand.New(rand.NewSource(43))
	for _, m := range samples() {
		l := listed(m)
		for range 3 {
			before := slices.Clone(l)
			if got, e := card.Mask(l); got != m || e != api.OK {
				t.Errorf("Mask(%v) is %#x, %d, not %#x", l, got, e, m)
			}
			if !slices.Equal(l, before) {
				t.Errorf("Mask made %v of its argument %v", l, before)
			}
			draw.Shuffle(len(l), func(i, j int) { l[i], l[j] = l[j], l[i] })
		}
	}
	for _, l := range [][]uint8{nil, {}} {
		if m, e := card.Mask(l); m != 0 || e != api.OK {
			t.Errorf("Mask(%v) is %#x, %d", l, m, e)
		}
	}
}

// P4.3: the first element that is wrong decides.
func TestMaskOfWrongLists(t *testing.T) {
	whole := listed(all)
	for _, c := range []struct {
		l    []uint8
		want api.Errno
	}{
		{[]uint8{52}, card.ErrCard}, {[]uint8{255}, card.ErrCard}, {[]uint8{64}, card.ErrCard}, {[]uint8{0, 64}, card.ErrCard}, {[]uint8{1, 2, 3, 53}, card.ErrCard},
		{[]uint8{0, 0}, card.ErrTwice}, {[]uint8{51, 51}, card.ErrTwice}, {[]uint8{7, 8, 9, 7}, card.ErrTwice},
		{[]uint8{52, 52}, card.ErrCard}, {[]uint8{1, 1, 52}, card.ErrTwice}, {[]uint8{1, 52, 1}, card.ErrCard}, {[]uint8{52, 1, 1}, card.ErrCard}, {[]uint8{1, 2, 2, 52, 1}, card.ErrTwice},
		{append(slices.Clone(whole), 0), card.ErrTwice}, {append(slices.Clone(whole), 52), card.ErrCard}, {append(slices.Clone(whole), whole...), card.ErrTwice}, {make([]uint8, 1000), card.ErrTwice},
	} {
		before := slices.Clone(c.l)
		if m, e := card.Mask(c.l); m != 0 || e != c.want {
			t.Errorf("Mask(%v) is %#x, %d, not %d", c.l, m, e, c.want)
		}
		if !slices.Equal(c.l, before) {
			t.Errorf("Mask made %v of its argument %v", c.l, before)
		}
	}
	for c := 52; c < 256; c++ {
		if m, e := card.Mask([]uint8{3, uint8(c)}); m != 0 || e != card.ErrCard {
			t.Errorf("Mask of 3 and %d is %#x, %d", c, m, e)
		}
	}
	for c := range uint8(52) {
		if m, e := card.Mask([]uint8{c, 51 - c, c}); m != 0 || e != card.ErrTwice {
			t.Errorf("Mask of %d twice is %#x, %d", c, m, e)
		}
	}
}

// P4.4
func TestWrite(t *testing.T) {
	for _, m := range samples() {
		if s, e := card.Write(m); s != written(m) || e != api.OK {
			t.Errorf("Write(%#x) is %q, %d, not %q", m, s, e, written(m))
		}
	}
	for _, m := range wrongMasks() {
		if s, e := card.Write(m); s != "" || e != card.ErrCard {
			t.Errorf("Write(%#x) is %q, %d", m, s, e)
		}
	}
}

// P4.4
func TestSetsOfTheChapter(t *testing.T) {
	for _, c := range []struct {
		l    string
		want string
	}{
		{"", "..."}, {"SA SK ST S9 S4 HQ H8 H3 CT C9 C5 C3 C2", "AKT94.Q83..T9532"}, {"C2", "...2"}, {"DK", "..K."}, {"HJ", ".J.."}, {"ST", "T..."}, {"S2 SA", "A2..."},
		{order, "AKQJT98765432.AKQJT98765432.AKQJT98765432.AKQJT98765432"},
	} {
		var m uint64
		for _, s := range strings.Fields(c.l) {
			one, e := card.Read(s)
			if e != api.OK {
				t.Fatalf("Read(%q) is %d", s, e)
			}
			m |= 1 << one
		}
		if s, e := card.Write(m); s != c.want || e != api.OK {
			t.Errorf("Write of %s is %q, %d, not %q", c.l, s, e, c.want)
		}
		if got, e := card.Parse(c.want); got != m || e != api.OK {
			t.Errorf("Parse(%q) is %#x, %d, not %#x", c.want, got, e, m)
		}
	}
}

// P4.4
func TestParse(t *testing.T) {
	for _, m := range samples() {
		if got, e := card.Parse(written(m)); got != m || e != api.OK {
			t.Errorf("Parse(%q) is %#x, %d, not %#x", written(m), got, e, m)
		}
	}
	for _, s := range []string{
		"", ".", "..", "....", "A", "AKQJ", "KA...", ".KA..", "..KA.", "...KA", "AA...", "...22", "23...", "A...K.", ".A...", "A..K", "A,K,Q,J", "a...", "...t", "1...", "10...", "...0", "x...", "S...", "...♣",
		" ...", "... ", "A ...", "...\n", "\x00...", "...\x00", "-...", "-.-.-.-", "AKT94.Q83.-.T9532", "AKT94 Q83  T9532", "T9.8.", "T...T.", strings.Repeat(".", 1000), strings.Repeat("A", 1000), strings.Repeat("A", 1000) + "...",
		"AKQJT987654322...", "AKQJT98765432A...", "AKQJT98765432.AKQJT98765432.AKQJT98765432.AKQJT98765432.", ".AKQJT98765432.AKQJT98765432.AKQJT98765432.AKQJT98765432",
	} {
		if m, e := card.Parse(s); m != 0 || e != card.ErrText {
			t.Errorf("Parse(%q) is %#x, %d", s, m, e)
		}
	}
}

// P4.4, P4.6: of all strings that are next to a text just those are read that are texts themselves.
func TestParseOfNearStrings(t *testing.T) {
	texts := map[string]uint64{}
	for _, m := range samples() {
		texts[written(m)] = m
	}
	right := func(s string) bool {
		m, e := card.Parse(s)
		return e == api.OK && m <= all && written(m) == s
	}
	rejected := func(s string) bool {
		m, e := card.Parse(s)
		return m == 0 && e == card.ErrText
	}
	for _, s := range []string{"...", "A...", "...2", "AK.QJ.T9.87", "AKT94.Q83..T9532", written(all), written(spades), written(clubs | 1<<51)} {
		for i := range len(s) + 1 {
			for b := range 256 {
				for _, near := range []string{s[:i] + string([]byte{byte(b)}) + s[i:], s[:i] + string([]byte{byte(b)}) + s[min(i+1, len(s)):], s[:i] + s[min(i+1, len(s)):]} {
					if !right(near) && !rejected(near) {
						t.Fatalf("Parse(%q) is neither right nor rejected", near)
					}
					if strings.Count(near, ".") != 3 && !rejected(near) || strings.Trim(near, "AKQJT98765432.") != "" && !rejected(near) {
						t.Fatalf("Parse(%q) is not rejected", near)
					}
				}
			}
		}
	}
	for s, m := range texts {
		if !right(s) {
			t.Errorf("Parse(%q) is not %#x", s, m)
		}
	}
}

// P4.5
func TestTopAndLow(t *testing.T) {
	for _, m := range samples() {
		for suit := range uint8(4) {
			var top, low uint8
			some := false
			for rank := range uint8(13) {
				c := 13*suit + rank
				if m>>c&1 == 0 {
					continue
				}
				if !some {
					low = c
				}
				top, some = c, true
			}
			if c, is := card.Top(m, suit); c != top || is != some {
				t.Errorf("Top(%#x, %d) is %d, %t, not %d, %t", m, suit, c, is, top, some)
			}
			if c, is := card.Low(m, suit); c != low || is != some {
				t.Errorf("Low(%#x, %d) is %d, %t, not %d, %t", m, suit, c, is, low, some)
			}
		}
	}
}

// P4.5
func TestTopAndLowOfTheChapter(t *testing.T) {
	m, _ := card.Parse("AKT94.Q83..T9532")
	if c, some := card.Top(m, api.Hearts); c != 36 || !some {
		t.Errorf("the top heart is %d, %t", c, some)
	}
	if c, some := card.Low(m, api.Clubs); c != 0 || !some {
		t.Errorf("the low club is %d, %t", c, some)
	}
	nothing := func(m uint64, suit uint8) {
		c, top := card.Top(m, suit)
		d, low := card.Low(m, suit)
		if c != 0 || d != 0 || top || low {
			t.Errorf("Top and Low of %#x, %d are %d, %t and %d, %t", m, suit, c, top, d, low)
		}
	}
	nothing(m, api.Diamonds)
	for suit := 4; suit < 256; suit++ {
		nothing(m, uint8(suit))
		nothing(all, uint8(suit))
	}
	for _, m := range wrongMasks() {
		for _, suit := range []uint8{0, 1, 2, 3, 4, 255} {
			nothing(m, suit)
		}
	}
}

// P4.6
func TestCardsAreReadBack(t *testing.T) {
	seen := map[string]uint8{}
	for c := range uint8(52) {
		s, e := card.Text(c)
		if other, twice := seen[s]; twice || e != api.OK {
			t.Errorf("%d and %d have the text %q, %d", other, c, s, e)
		}
		seen[s] = c
		if back, e := card.Read(s); back != c || e != api.OK {
			t.Errorf("Read(Text(%d)) is %d, %d", c, back, e)
		}
		if back, e := card.Of(card.Suit(c), card.Rank(c)); back != c || e != api.OK {
			t.Errorf("Of of the suit and the rank of %d is %d, %d", c, back, e)
		}
	}
}

// P4.6
func TestSetsAreReadBack(t *testing.T) {
	seen := map[string]uint64{}
	for _, m := range samples() {
		s, e := card.Write(m)
		if other, known := seen[s]; known && other != m || e != api.OK {
			t.Errorf("%#x and %#x have the text %q, %d", other, m, s, e)
		}
		seen[s] = m
		if back, e := card.Parse(s); back != m || e != api.OK {
			t.Errorf("Parse(Write(%#x)) is %#x, %d", m, back, e)
		}
		if len(s) != bits.OnesCount64(m)+3 || strings.Count(s, ".") != 3 {
			t.Errorf("the text %q has not a character for each of %d cards, and three points", s, bits.OnesCount64(m))
		}
		l, e := card.List(m)
		if back, f := card.Mask(l); back != m || e != api.OK || f != api.OK {
			t.Errorf("Mask(List(%#x)) is %#x, %d, %d", m, back, e, f)
		}
		slices.Reverse(l)
		reversed, _ := card.Mask(l)
		slices.Reverse(l)
		if back, e := card.List(reversed); !slices.Equal(back, l) || e != api.OK {
			t.Errorf("List(Mask(%v)) is %v, %d", l, back, e)
		}
	}
}
