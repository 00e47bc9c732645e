package deal

import (
	"iter"
	"math/bits"

	"finesse/api"
	"finesse/nat"
	"finesse/seed"
)

// Ways returns how many completions a partial deal has.
func Ways(p api.Deal) (nat.N, api.Errno) {
	if !Partial(p) {
		return nat.N{}, ErrDeal
	}
	return waysFrom(p)[0], api.OK
}

// Complete returns the completion of a partial deal with an index.
func Complete(p api.Deal, n nat.N) (api.Deal, api.Errno) {
	left, e := Left(p)
	if e != api.OK {
		return api.Deal{}, e
	}
	ways := waysFrom(p)
	if nat.Cmp(n, ways[0]) >= 0 {
		return api.Deal{}, api.ErrNone
	}
	d := p
	fill := func(seat int) {
		var own nat.N
		own, n, _ = nat.Div(n, ways[seat+1])
		set := setAt(left, lacking(p[seat]), own)
		d[seat] |= set
		left &^= set
	}
	for seat := range seats {
		fill(seat)
	}
	return d, api.OK
}

// Index returns the index of a completion of a partial deal.
func Index(p, d api.Deal) (nat.N, api.Errno) {
	left, e := Left(p)
	if e != api.OK || !Right(d) {
		return nat.N{}, ErrDeal
	}
	if !completes(d, p) {
		return nat.N{}, api.ErrNone
	}
	ways := waysFrom(p)
	var index nat.N
	for seat, hand := range d {
		before, _ := nat.Mul(setsBefore(left, hand&left), ways[seat+1])
		index, _ = nat.Add(index, before)
		left &^= hand
	}
	return index, api.OK
}

// Random draws a completion of a partial deal.
func Random(s seed.State, p api.Deal) (seed.State, api.Deal, api.Errno) {
	if !seed.Right(s) {
		return 0, api.Deal{}, api.ErrArg
	}
	ways, e := Ways(p)
	if e != api.OK {
		return 0, api.Deal{}, e
	}
	s, n, _ := seed.BelowNat(s, ways)
	d, _ := Complete(p, n)
	return s, d, api.OK
}

// lacking returns how many cards a hand of a partial deal lacks.
func lacking(hand uint64) int { return size - bits.OnesCount64(hand) }

// completes reports whether each hand of a deal has all cards that it has in a partial one.
func completes(d, p api.Deal) bool {
	for seat, hand := range p {
		if hand&^d[seat] != 0 {
			return false
		}
	}
	return true
}

// waysFrom returns, for each seat, in how many ways it and the others after it can share the cards that they lack; the last number is for no seat: nobody shares no cards in 1 way.
func waysFrom(p api.Deal) [seats + 1]nat.N {
	ways := [seats + 1]nat.N{seats: {1}}
	cards := 0
	for seat := seats - 1; seat >= 0; seat-- {
		own := lacking(p[seat])
		cards += own
		choices, _ := nat.Choose(cards, own)
		ways[seat], _ = nat.Mul(choices, ways[seat+1])
	}
	return ways
}

// cardsOf yields the cards of a set, each as a mask, from the greatest down, and how many of the set are below each.
func cardsOf(set uint64) iter.Seq2[int, uint64] {
	return func(yield func(int, uint64) bool) {
		below := bits.OnesCount64(set)
		for left := set; left != 0; {
			greatest := uint64(1) << (bits.Len64(left) - 1)
			left &^= greatest
			below--
			if !yield(below, greatest) {
				return
			}
		}
	}
}

// setsBefore returns how many sets, of as many of the cards that are left, come before a set of them.
func setsBefore(left, set uint64) nat.N {
	var sets nat.N
	wanted := bits.OnesCount64(set)
	for below, card := range cardsOf(left) {
		if set&card == 0 {
			continue
		}
		// Sets with the same greater cards, but with lower ones only in the place of this card, come before.
		lower, _ := nat.Choose(below, wanted)
		sets, _ = nat.Add(sets, lower)
		wanted--
	}
	return sets
}

// setAt returns the set of so many of the cards that are left before which n others come.
func setAt(left uint64, wanted int, n nat.N) uint64 {
	var set uint64
	for below, card := range cardsOf(left) {
		lower, _ := nat.Choose(below, wanted)
		// The sets without this card come first: with n less than their number it is one of them.
		beyond, e := nat.Sub(n, lower)
		if e != api.OK {
			continue
		}
		n = beyond
		set |= card
		wanted--
	}
	return set
}
