package irregular

import (
	"slices"

	"finesse/api"
	"finesse/auction"
	"finesse/call"
)

// The greatest number of turns at which a seat must pass, and what stands for all its turns.
const (
	maxPass = 100
	always  = -1
)

// allSuits has a 1 for each suit, at the bit of its number.
const allSuits uint8 = 1<<api.NoTrump - 1

// rightDemands reports whether the demands of a course with right calls can be.
func rightDemands(c Course) bool {
	for seat := range seats {
		pass := c.Pass[seat]
		if pass < always || pass > maxPass || c.Again[seat] > api.MaxCall+1 || c.Forbid[seat] > allSuits {
			return false
		}
	}
	return c.Change == 0 || c.Change <= api.MaxCall+1 && !isOver(c)
}

// legal returns the legal calls of a right course that is not over.
func legal(c Course) []uint8 {
	free, _ := auction.Legal(recent(c))
	seat := turn(c)
	again := c.Again[seat]
	switch {
	case c.Pass[seat] != 0:
		return []uint8{api.Pass}
	case again > 0 && followsPass(c) && slices.Contains(free, again-1):
		return []uint8{again - 1}
	case c.Change > 0:
		return slices.DeleteFunc(free, isDouble)
	}
	return free
}

// kindOf returns the kind of a call of a seat in a right course.
func kindOf(c Course, seat, x uint8) uint8 {
	if isOver(c) {
		return KindAfter
	}
	switch waits(c, seat) {
	case 1:
		return KindRight
	case 2:
		return KindPartner
	case 3:
		return KindLeft
	}
	switch {
	case slices.Contains(legal(c), x):
		return KindNone
	case isLow(c, x):
		return KindLow
	case isDouble(x) && !isFree(c, x):
		return KindDouble
	}
	return KindForced
}

// canAccept reports whether a call of a kind can be accepted; more is the passes before it and the call.
func canAccept(c Course, kind uint8, more []uint8) bool {
	switch kind {
	case KindLow:
		return true
	case KindRight, KindPartner, KindLeft:
		before, x := more[:len(more)-1], more[len(more)-1]
		return isFree(extended(c, before...), x)
	}
	return false
}

// done returns a course after a legal call.
func done(c Course, x uint8) Course {
	seat := turn(c)
	partner := partnerOf(seat)
	next := extended(c, x)
	spend(&next, seat)
	if c.Again[seat] > 0 {
		next.Again[seat] = 0
		if !followsPass(c) {
			raise(&next, partner)
		}
	}
	if c.Change > 0 {
		next.Change = 0
		if !replaces(c, x) {
			next.Pass[partner] = always
			next.Forbid[partner] |= suits(c.Change - 1)
		}
	}
	return next
}

// accepted returns a course after an irregular call that was accepted; more is the passes before it and the call.
func accepted(c Course, kind uint8, more []uint8) Course {
	next := extended(c, more...)
	if kind == KindLow {
		next.Accepted = with(next.Accepted, len(c.Calls))
	}
	for i := range more {
		seat := seatOf(c, len(c.Calls)+i)
		spend(&next, seat)
		next.Again[seat] = 0
	}
	next.Change = 0
	return next
}

// refusals has for each kind what is demanded if the call x of a seat is refused.
func refusals(c *Course, seat, x uint8) [KindForced + 1]func() {
	partner := partnerOf(seat)
	nothing := func() {}
	replace := func() { c.Change = x + 1 }
	// A pass out of turn demands nothing but a pass; what any other call demands depends on the kind.
	unlessPass := func(other func()) func() {
		if x == api.Pass {
			return func() { raise(c, seat) }
		}
		return other
	}
	return [...]func(){
		KindNone:   nothing,
		KindLow:    replace,
		KindDouble: replace,
		KindRight:  unlessPass(func() { c.Again[seat] = x + 1 }),
		KindPartner: unlessPass(func() {
			c.Pass[seat] = always
			c.Forbid[partner] |= suits(x)
		}),
		KindLeft: func() {
			if x != api.Pass {
				raise(c, partner)
			}
		},
		KindAfter:  nothing,
		KindForced: nothing,
	}
}

// replaces reports whether a call is the cheapest bid of the denomination of the bid that has to be replaced.
func replaces(c Course, x uint8) bool {
	_, denom, bid := call.Parts(c.Change - 1)
	if !bid {
		return false
	}
	cheapest, e := call.Cheapest(lastBid(c), denom)
	return e == api.OK && x == cheapest
}

// extended returns a course that shares no memory with c, with more calls.
func extended(c Course, more ...uint8) Course {
	c.Calls = with(c.Calls, more...)
	c.Accepted = with(c.Accepted)
	return c
}

// spend takes one turn from those at which a seat must pass.
func spend(c *Course, seat uint8) {
	if c.Pass[seat] > 0 {
		c.Pass[seat]--
	}
}

// raise makes a seat pass at its next turn, unless it has to anyway.
func raise(c *Course, seat uint8) {
	if c.Pass[seat] == 0 {
		c.Pass[seat] = 1
	}
}

// suits returns the suits of a call, a bit for each.
func suits(x uint8) uint8 {
	_, denom, bid := call.Parts(x)
	switch {
	case !bid:
		return 0
	case denom == api.NoTrump:
		return allSuits
	}
	return 1 << denom
}

func isDouble(x uint8) bool { return x == api.Double || x == api.Redouble }
