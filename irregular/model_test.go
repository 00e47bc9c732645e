package irregular_test

import (
	"slices"
	"testing"

	"finesse/api"
	"finesse/auction"
	"finesse/call"
	"finesse/irregular"
)

type course = irregular.Course

// lowest is the lowest bid; bids of a denomination are five apart.
const lowest = 3

// of returns a course with a string of calls and the indices of the accepted ones.
func of(t testing.TB, dealer uint8, s string, accepted ...int) course {
	t.Helper()
	l, e := call.ReadAll(s)
	if e != api.OK {
		t.Fatalf("%q is no string of calls: %d", s, e)
	}
	return course{Dealer: dealer, Calls: l, Accepted: accepted}
}

// read returns the call with a string.
func read(t testing.TB, s string) uint8 {
	t.Helper()
	x, e := call.Read(s)
	if e != api.OK {
		t.Fatalf("%q is no string of a call: %d", s, e)
	}
	return x
}

// same compares courses; nil lists are empty ones.
func same(a, b course) bool {
	lists := slices.Equal(a.Calls, b.Calls) && slices.Equal(a.Accepted, b.Accepted)
	return lists && a.Dealer == b.Dealer && a.Pass == b.Pass && a.Again == b.Again && a.Change == b.Change && a.Forbid == b.Forbid
}

// copied returns a course that can be changed.
func copied(c course) course {
	c.Calls, c.Accepted = slices.Clone(c.Calls), slices.Clone(c.Accepted)
	return c
}

func isBid(x uint8) bool { return x >= lowest && x <= api.MaxCall }

func isDouble(x uint8) bool { return x == api.Double || x == api.Redouble }

func noPass(x uint8) bool { return x != api.Pass }

// lastOf returns the index of the last call for which a condition holds; -1 if there is none.
func lastOf(l []uint8, holds func(uint8) bool) int {
	for i := len(l) - 1; i >= 0; i-- {
		if holds(l[i]) {
			return i
		}
	}
	return -1
}

// endsAt reports whether calls are over, by the definition.
func endsAt(l []uint8) bool {
	if lastOf(l, isBid) < 0 {
		return len(l) >= 4
	}
	return len(l) >= 3 && lastOf(l, noPass) < len(l)-3
}

// freeAfter follows the definition of free calls, for calls that are not over.
func freeAfter(l []uint8, x uint8) bool {
	last := lastOf(l, noPass)
	otherSide := last >= 0 && (len(l)-last)%2 == 1
	switch x {
	case api.Pass:
		return true
	case api.Double:
		return otherSide && isBid(l[last])
	case api.Redouble:
		return otherSide && l[last] == api.Double
	}
	bid := lastOf(l, isBid)
	return isBid(x) && (bid < 0 || x > l[bid])
}

// isRight follows the definition of right courses.
func isRight(c course) bool {
	if c.Dealer > 3 || len(c.Calls) > 400 {
		return false
	}
	var low []int
	for i, x := range c.Calls {
		if endsAt(c.Calls[:i]) || x > api.MaxCall {
			return false
		}
		if !freeAfter(c.Calls[:i], x) {
			if !isBid(x) {
				return false
			}
			low = append(low, i)
		}
	}
	for seat := range 4 {
		if c.Pass[seat] < -1 || c.Pass[seat] > 100 || c.Again[seat] > 38 || c.Forbid[seat] > 15 {
			return false
		}
	}
	if c.Change > 38 || c.Change > 0 && endsAt(c.Calls) {
		return false
	}
	return slices.Equal(low, c.Accepted)
}

func turnOf(c course) uint8 { return uint8((int(c.Dealer) + len(c.Calls)) % 4) }

// afterPass reports whether the call before is a pass, or there is none.
func afterPass(c course) bool { return len(c.Calls) == 0 || c.Calls[len(c.Calls)-1] == api.Pass }

// legalOf is what is legal in a right course that is not over.
func legalOf(c course) []uint8 {
	turn := turnOf(c)
	if c.Pass[turn] != 0 {
		return []uint8{api.Pass}
	}
	if again := c.Again[turn]; again > 0 && afterPass(c) && freeAfter(c.Calls, again-1) {
		return []uint8{again - 1}
	}
	var l []uint8
	for x := range api.MaxCall + 1 {
		if freeAfter(c.Calls, x) && (c.Change == 0 || !isDouble(x)) {
			l = append(l, x)
		}
	}
	return l
}

// kindOf is the kind of a call in a right course.
func kindOf(c course, seat, x uint8) uint8 {
	turn := turnOf(c)
	bid := lastOf(c.Calls, isBid)
	switch {
	case endsAt(c.Calls):
		return irregular.KindAfter
	case (turn+1)%4 == seat:
		return irregular.KindRight
	case (turn+2)%4 == seat:
		return irregular.KindPartner
	case (turn+3)%4 == seat:
		return irregular.KindLeft
	case slices.Contains(legalOf(c), x):
		return irregular.KindNone
	case isBid(x) && bid >= 0 && x <= c.Calls[bid]:
		return irregular.KindLow
	case isDouble(x) && !freeAfter(c.Calls, x):
		return irregular.KindDouble
	}
	return irregular.KindForced
}

// suitsOf is the suits of a call.
func suitsOf(x uint8) uint8 {
	if !isBid(x) {
		return 0
	}
	return [5]uint8{1, 2, 4, 8, 15}[(x-lowest)%5]
}

// raised is a Pass that is raised to 1.
func raised(pass int) int {
	if pass == 0 {
		return 1
	}
	return pass
}

// spent is a Pass after a turn.
func spent(pass int) int {
	if pass > 0 {
		return pass - 1
	}
	return pass
}

// isReplaced reports whether x is the cheapest bid of the denomination of a bid that had to be replaced.
func isReplaced(l []uint8, old, x uint8) bool {
	if !isBid(old) || !isBid(x) || x%5 != old%5 {
		return false
	}
	bid := lastOf(l, isBid)
	return bid < 0 && x < lowest+5 || bid >= 0 && x > l[bid] && x-l[bid] <= 5
}

// doOf is the course after a call of the seat whose turn it is.
func doOf(c course, x uint8) (course, api.Errno) {
	switch {
	case !isRight(c):
		return course{}, irregular.ErrCourse
	case endsAt(c.Calls):
		return course{}, irregular.ErrOver
	case !slices.Contains(legalOf(c), x):
		return course{}, irregular.ErrCall
	case len(c.Calls) == 400:
		return course{}, api.ErrMany
	}
	turn, next := turnOf(c), copied(c)
	partner := (turn + 2) % 4
	next.Calls = append(next.Calls, x)
	next.Pass[turn] = spent(next.Pass[turn])
	if c.Again[turn] > 0 && !afterPass(c) {
		next.Pass[partner] = raised(next.Pass[partner])
	}
	next.Again[turn] = 0
	if c.Change > 0 && !isReplaced(c.Calls, c.Change-1, x) {
		next.Pass[partner] = -1
		next.Forbid[partner] |= suitsOf(c.Change - 1)
	}
	next.Change = 0
	return next, api.OK
}

// kindError is what Kind, Accept and Refuse return before all else.
func kindError(c course, seat, x uint8) api.Errno {
	switch {
	case !isRight(c):
		return irregular.ErrCourse
	case seat > 3:
		return api.ErrArg
	case x > api.MaxCall:
		return call.ErrCall
	}
	return api.OK
}

// acceptOf is the course after an irregular call was accepted.
func acceptOf(c course, seat, x uint8) (course, api.Errno) {
	if e := kindError(c, seat, x); e != api.OK {
		return course{}, e
	}
	next := copied(c)
	switch kindOf(c, seat, x) {
	case irregular.KindNone:
		return course{}, api.ErrNone
	case irregular.KindDouble, irregular.KindAfter, irregular.KindForced:
		return course{}, irregular.ErrFirm
	case irregular.KindLow:
		next.Accepted = append(next.Accepted, len(c.Calls))
	default:
		for turnOf(next) != seat {
			next.Calls = append(next.Calls, api.Pass)
		}
		if endsAt(next.Calls) || !freeAfter(next.Calls, x) {
			return course{}, irregular.ErrFirm
		}
	}
	next.Calls = append(next.Calls, x)
	if len(next.Calls) > 400 {
		return course{}, api.ErrMany
	}
	for i := len(c.Calls); i < len(next.Calls); i++ {
		who := (int(c.Dealer) + i) % 4
		next.Pass[who], next.Again[who] = spent(next.Pass[who]), 0
	}
	next.Change = 0
	return next, api.OK
}

// refuseOf is the course after an irregular call was refused.
func refuseOf(c course, seat, x uint8) (course, api.Errno) {
	if e := kindError(c, seat, x); e != api.OK {
		return course{}, e
	}
	next := copied(c)
	partner := (seat + 2) % 4
	kind := kindOf(c, seat, x)
	outOfTurn := kind == irregular.KindRight || kind == irregular.KindPartner
	switch {
	case kind == irregular.KindNone:
		return course{}, api.ErrNone
	case kind == irregular.KindLow, kind == irregular.KindDouble:
		next.Change = x + 1
	case outOfTurn && x == api.Pass:
		next.Pass[seat] = raised(next.Pass[seat])
	case kind == irregular.KindRight:
		next.Again[seat] = x + 1
	case kind == irregular.KindPartner:
		next.Pass[seat] = -1
		next.Forbid[partner] |= suitsOf(x)
	case kind == irregular.KindLeft && x != api.Pass:
		next.Pass[partner] = raised(next.Pass[partner])
	}
	return next, api.OK
}

// contractOf is the contract of a course, and the suits that the declarer may forbid.
func contractOf(c course) (made api.Contract, forbid uint8, e, f api.Errno) {
	if !isRight(c) {
		return made, 0, irregular.ErrCourse, irregular.ErrCourse
	}
	if !endsAt(c.Calls) {
		return made, 0, irregular.ErrOpen, irregular.ErrOpen
	}
	last := lastOf(c.Calls, isBid)
	if last < 0 {
		return made, 0, api.OK, api.ErrNone
	}
	made.Level, made.Denom = (c.Calls[last]-lowest)/5+1, (c.Calls[last]-lowest)%5
	for i := last; i < len(c.Calls); i++ {
		if isDouble(c.Calls[i]) {
			made.Risk = max(made.Risk, c.Calls[i])
		}
	}
	for i := last; i >= 0; i -= 2 {
		if isBid(c.Calls[i]) && (c.Calls[i]-lowest)%5 == made.Denom {
			made.Declarer = uint8((int(c.Dealer) + i) % 4)
		}
	}
	return made, c.Forbid[(made.Declarer+1)%4], api.OK, api.OK
}

// agree compares what is asked of a course alone with the definitions.
func agree(t *testing.T, c course) {
	t.Helper()
	right := isRight(c)
	if irregular.Right(c) != right {
		t.Fatalf("Right(%v) is %t", c, !right)
	}
	ended, turn, legal := false, uint8(0), []uint8(nil)
	wantOver, wantOpen := irregular.ErrCourse, irregular.ErrCourse
	if right {
		ended, wantOver, wantOpen = endsAt(c.Calls), api.OK, irregular.ErrOver
		if !ended {
			turn, legal, wantOpen = turnOf(c), legalOf(c), api.OK
		}
	}
	if over, e := irregular.Over(c); over != ended || e != wantOver {
		t.Fatalf("Over(%v) is %t, %d, not %t, %d", c, over, e, ended, wantOver)
	}
	if seat, e := irregular.Turn(c); seat != turn || e != wantOpen {
		t.Fatalf("Turn(%v) is %d, %d, not %d, %d", c, seat, e, turn, wantOpen)
	}
	if l, e := irregular.Legal(c); !slices.Equal(l, legal) || e != wantOpen {
		t.Fatalf("Legal(%v) is %v, %d, not %v, %d", c, l, e, legal, wantOpen)
	}
	made, forbid, wantMade, wantLead := contractOf(c)
	if x, e := irregular.Contract(c); x != made || e != wantMade {
		t.Fatalf("Contract(%v) is %v, %d, not %v, %d", c, x, e, made, wantMade)
	}
	if x, e := irregular.Lead(c); x != forbid || e != wantLead {
		t.Fatalf("Lead(%v) is %d, %d, not %d, %d", c, x, e, forbid, wantLead)
	}
}

// agreeOn compares what a call of a seat makes of a course with the definitions; what is made of it is a right course.
func agreeOn(t *testing.T, c course, seat, x uint8) {
	t.Helper()
	kind, wantKind := uint8(0), kindError(c, seat, x)
	if wantKind == api.OK {
		kind = kindOf(c, seat, x)
	}
	if k, e := irregular.Kind(c, seat, x); k != kind || e != wantKind {
		t.Fatalf("Kind(%v, %d, %d) is %d, %d, not %d, %d", c, seat, x, k, e, kind, wantKind)
	}
	compare := func(name string, got course, e api.Errno, want course, wrong api.Errno) {
		t.Helper()
		if e != wrong || !same(got, want) {
			t.Fatalf("%s(%v, %d, %d) is %v, %d, not %v, %d", name, c, seat, x, got, e, want, wrong)
		}
		if e == api.OK && !irregular.Right(got) {
			t.Fatalf("%s(%v, %d, %d) is %v, which is not right", name, c, seat, x, got)
		}
	}
	got, e := irregular.Do(c, x)
	want, wrong := doOf(c, x)
	compare("Do", got, e, want, wrong)
	got, e = irregular.Accept(c, seat, x)
	want, wrong = acceptOf(c, seat, x)
	compare("Accept", got, e, want, wrong)
	got, e = irregular.Refuse(c, seat, x)
	want, wrong = refuseOf(c, seat, x)
	compare("Refuse", got, e, want, wrong)
}

// isAuction compares a course without irregular calls with an auction of layer 9.
func isAuction(t *testing.T, c course) {
	t.Helper()
	_, wrong := auction.Check(c.Dealer, c.Calls)
	over, e := auction.Over(c.Dealer, c.Calls)
	if got, f := irregular.Over(c); got != over || (e == api.OK) != (f == api.OK) || irregular.Right(c) != (wrong == api.OK) {
		t.Fatalf("Over(%v) is %t, %d; of the auction it is %t, %d", c, got, f, over, e)
	}
	turn, e := auction.Turn(c.Dealer, c.Calls)
	if got, f := irregular.Turn(c); got != turn || (e == api.OK) != (f == api.OK) {
		t.Fatalf("Turn(%v) is %d, %d; of the auction it is %d, %d", c, got, f, turn, e)
	}
	legal, e := auction.Legal(c.Dealer, c.Calls)
	if got, f := irregular.Legal(c); !slices.Equal(got, legal) || (e == api.OK) != (f == api.OK) {
		t.Fatalf("Legal(%v) is %v, %d; of the auction it is %v, %d", c, got, f, legal, e)
	}
	made, e := auction.Contract(c.Dealer, c.Calls)
	if got, f := irregular.Contract(c); got != made || (e == api.OK) != (f == api.OK) {
		t.Fatalf("Contract(%v) is %v, %d; of the auction it is %v, %d", c, got, f, made, e)
	}
}
