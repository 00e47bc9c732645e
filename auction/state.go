package auction

import (
	"finesse/api"
	"finesse/call"
)

// How far the last bid is doubled.
const (
	undoubled uint8 = iota
	doubled
	redoubled
)

const (
	seats = api.West + 1
	sides = 2
)

// noBid stands for the last bid before there is one: any bid is greater.
const noBid = api.Pass

// lastBid is the last bid of an auction, the seat that made it, and how far it is doubled.
type lastBid struct{ bid, seat, risk uint8 }

// state is what the calls so far leave to the next ones.
type state struct {
	lastBid
	turn uint8
	// passes is how many of the last calls in a row are passes.
	passes int
}

// follow returns the state after all calls and -1, or the index of the first call that is not legal and why.
func follow(dealer uint8, l []uint8) (state, int, api.Errno) {
	if dealer >= seats {
		return state{}, -1, api.ErrArg
	}
	s := state{turn: dealer}
	for i, c := range l {
		if e := s.refuses(c); e != api.OK {
			return state{}, i, e
		}
		s.take(c)
	}
	return s, -1, api.OK
}

// right returns the state after the calls of a right auction.
func right(dealer uint8, l []uint8) (state, api.Errno) {
	s, _, e := follow(dealer, l)
	if e != api.OK {
		return state{}, api.ErrArg
	}
	return s, api.OK
}

// open returns the state after the calls of a right auction that is not over.
func open(dealer uint8, l []uint8) (state, api.Errno) {
	s, e := right(dealer, l)
	if e != api.OK {
		return state{}, e
	}
	if s.over() {
		return state{}, ErrOver
	}
	return s, api.OK
}

// refuses returns why a call is not legal next; OK if it is.
func (s state) refuses(c uint8) api.Errno {
	switch {
	case !call.Right(c):
		return call.ErrCall
	case s.over():
		return ErrOver
	case !s.allows(c):
		return api.ErrArg
	}
	return api.OK
}

// allows reports whether a call is legal next in an auction that is not over.
func (s state) allows(c uint8) bool {
	switch c {
	case api.Pass:
		return true
	case api.Double:
		return s.bid != noBid && s.risk == undoubled && !sameSide(s.turn, s.seat)
	case api.Redouble:
		// Only the other side could double, so that a redouble is up to the side of the last bid.
		return s.risk == doubled && sameSide(s.turn, s.seat)
	}
	return c > s.bid
}

// take changes the state by a legal call.
func (s *state) take(c uint8) {
	switch {
	case isBid(c):
		s.bid, s.seat = c, s.turn
		fallthrough
	case c != api.Pass:
		s.risk = riskOf(c)
		s.passes = 0
	default:
		s.passes++
	}
	s.turn = left(s.turn)
}

func (s state) over() bool {
	if s.bid == noBid {
		return s.passes == int(seats)
	}
	return s.passes == int(seats)-1
}

// riskOf returns how far the last bid is doubled after a call that is no pass.
func riskOf(c uint8) uint8 {
	switch c {
	case api.Double:
		return doubled
	case api.Redouble:
		return redoubled
	}
	return undoubled
}

func isBid(c uint8) bool {
	_, _, is := call.Parts(c)
	return is
}

func left(seat uint8) uint8 { return (seat + 1) % seats }

func sameSide(a, b uint8) bool { return a%sides == b%sides }
