package card

import (
	"iter"
	"math/bits"
	"slices"
	"strings"

	"finesse/api"
)

// point is between two suits of the text of a set.
const point = "."

// fullSuit is the clubs, and so all ranks; fullSet is all cards.
const (
	fullSuit uint64 = 1<<ranks - 1
	fullSet  uint64 = 1<<api.Cards - 1
)

// List returns the cards of a set.
func List(m uint64) ([]uint8, api.Errno) {
	if !rightMask(m) {
		return nil, ErrCard
	}
	return slices.Collect(cards(m)), api.OK
}

// Mask returns the set of the cards of a list.
func Mask(l []uint8) (uint64, api.Errno) {
	var m uint64
	for _, c := range l {
		if !Right(c) {
			return 0, ErrCard
		}
		if m>>c&1 != 0 {
			return 0, ErrTwice
		}
		m |= 1 << c
	}
	return m, api.OK
}

// Write returns a set as text.
func Write(m uint64) (string, api.Errno) {
	if !rightMask(m) {
		return "", ErrCard
	}
	var parts [suits]string
	for c := range cards(m) {
		rank := Rank(c)
		parts[place(Suit(c))] += characters[rank : rank+1]
	}
	return strings.Join(parts[:], point), api.OK
}

// Parse returns the set with a text.
func Parse(s string) (uint64, api.Errno) {
	parts, whole := split(s)
	if !whole {
		return 0, ErrText
	}
	var m uint64
	for suit := range suits {
		holding, ordered := held(parts[place(uint8(suit))])
		if !ordered {
			return 0, ErrText
		}
		m |= holding << (suit * ranks)
	}
	return m, api.OK
}

// Top returns the greatest card of a suit.
func Top(m uint64, suit uint8) (uint8, bool) {
	m = suited(m, suit)
	if m == 0 {
		return 0, false
	}
	return greatest(m), true
}

// Low returns the least card of a suit.
func Low(m uint64, suit uint8) (uint8, bool) {
	m = suited(m, suit)
	if m == 0 {
		return 0, false
	}
	return uint8(bits.TrailingZeros64(m)), true
}

func rightMask(m uint64) bool { return m <= fullSet }

// cards yields the cards of a set in the order of cards, which is from the greatest number down.
func cards(m uint64) iter.Seq[uint8] {
	return func(yield func(uint8) bool) {
		for left := m; left != 0; left &^= 1 << greatest(left) {
			if !yield(greatest(left)) {
				return
			}
		}
	}
}

// greatest needs a set that is not empty.
func greatest(m uint64) uint8 { return uint8(bits.Len64(m) - 1) }

// suited returns the cards of a suit; none if there is no such suit or set.
func suited(m uint64, suit uint8) uint64 {
	if !rightMask(m) || int(suit) >= suits {
		return 0
	}
	return m & (fullSuit << (int(suit) * ranks))
}

// place returns which part of a text a suit has: the spades come first.
func place(suit uint8) int { return suits - 1 - int(suit) }

// split returns the parts of a text; false if there are not as many as suits.
func split(s string) ([suits]string, bool) {
	var parts [suits]string
	if strings.Count(s, point) != suits-1 {
		return parts, false
	}
	copy(parts[:], strings.Split(s, point))
	return parts, true
}

// held returns the ranks of a part as bits; false if it has other characters, or a rank that is not below the one before it.
func held(part string) (uint64, bool) {
	var holding uint64
	above := ranks
	for i := range len(part) {
		rank := strings.IndexByte(characters, part[i])
		if rank < 0 || rank >= above {
			return 0, false
		}
		holding |= 1 << rank
		above = rank
	}
	return holding, true
}
