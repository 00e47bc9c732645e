package irregular

import (
	"slices"

	"finesse/api"
	"finesse/auction"
	"finesse/call"
)

const (
	seats = api.West + 1
	sides = 2
)

// recent returns the part of a course by which layer 9 knows what is free: an auction of the last bid and the calls after it, or of all calls if there is no bid.
// An accepted low bid is the first one of its part, where nothing is too low.
func recent(c Course) (uint8, []uint8) {
	last, _ := auction.Last(c.Calls)
	return seatOf(c, last), c.Calls[last:]
}

// isOver reports whether a course with right calls is over.
func isOver(c Course) bool {
	over, _ := auction.Over(recent(c))
	return over
}

// isFree reports whether a call is free after the calls of a course; it is not after passes with which the course is over.
func isFree(c Course, x uint8) bool {
	dealer, l := recent(c)
	_, e := auction.Check(dealer, with(l, x))
	return e == api.OK
}

// isLow reports whether a call is a bid that is not greater than the last bid.
func isLow(c Course, x uint8) bool {
	_, _, bid := call.Parts(x)
	return bid && x <= lastBid(c)
}

// lastBid returns the last bid, or a pass, over which any bid is high enough, if there is none.
func lastBid(c Course) uint8 {
	last, some := auction.Last(c.Calls)
	if !some {
		return api.Pass
	}
	return c.Calls[last]
}

// rightCalls reports whether each call was free, or was accepted though it was too low.
func rightCalls(c Course) bool {
	before, left := c, c.Accepted
	for i, x := range c.Calls {
		before.Calls = c.Calls[:i]
		if isFree(before, x) {
			continue
		}
		if isOver(before) || !isLow(before, x) || len(left) == 0 || left[0] != i {
			return false
		}
		left = left[1:]
	}
	return len(left) == 0
}

// followsPass reports whether the next call comes after a pass, or is the first one.
func followsPass(c Course) bool {
	n := len(c.Calls)
	return n == 0 || c.Calls[n-1] == api.Pass
}

// declarer returns the seat that was the first one of the bidder's side to bid a denomination; the bidder if there is no bid.
func declarer(c Course, bidder, denom uint8) uint8 {
	for i, x := range c.Calls {
		if _, d, bid := call.Parts(x); bid && d == denom && sameSide(seatOf(c, i), bidder) {
			return seatOf(c, i)
		}
	}
	return bidder
}

// turn returns the seat that makes the next call.
func turn(c Course) uint8 { return seatOf(c, len(c.Calls)) }

// seatOf returns the seat that makes the call with an index.
func seatOf(c Course, i int) uint8 { return (c.Dealer + uint8(i%int(seats))) % seats }

// waits returns how many seats have their turns before a seat has its own.
func waits(c Course, seat uint8) int { return int((seat + seats - turn(c)) % seats) }

func partnerOf(seat uint8) uint8 { return (seat + sides) % seats }

func sameSide(a, b uint8) bool { return a%sides == b%sides }

// with returns a new list of the elements of a list and more.
func with[T any](l []T, more ...T) []T { return slices.Concat(l, more) }
