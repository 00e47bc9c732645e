package irregular_test

import (
	"slices"
	"testing"

	"finesse/api"
	"finesse/call"
	"finesse/irregular"
)

// demanding returns a course that was changed.
func demanding(c course, change func(c *course)) course {
	change(&c)
	return c
}

// low returns a course of n bids of 1C, all but the first of which were accepted.
func low(n int) course {
	var c course
	for i := range n {
		c.Calls = append(c.Calls, lowest)
		if i > 0 {
			c.Accepted = append(c.Accepted, i)
		}
	}
	return c
}

func TestNumbers(t *testing.T) {
	kinds := []uint8{irregular.KindNone, irregular.KindLow, irregular.KindDouble, irregular.KindRight, irregular.KindPartner, irregular.KindLeft, irregular.KindAfter, irregular.KindForced}
	if !slices.Equal(kinds, []uint8{0, 1, 2, 3, 4, 5, 6, 7}) {
		t.Errorf("the kinds are %v", kinds)
	}
	errors := []api.Errno{irregular.ErrCourse, irregular.ErrOver, irregular.ErrOpen, irregular.ErrCall, irregular.ErrFirm}
	if !slices.Equal(errors, []api.Errno{100, 101, 102, 103, 104}) || irregular.MaxCalls != 400 {
		t.Errorf("the errors are %v; %d calls", errors, irregular.MaxCalls)
	}
}

// P10.1
func TestRightCalls(t *testing.T) {
	for _, c := range []struct {
		c    course
		want bool
	}{
		{course{}, true},
		{of(t, 3, "P P P P"), true},
		{of(t, 3, "P P P P P"), false},
		{of(t, 4, ""), false},
		{of(t, 255, "1C"), false},
		{of(t, 1, "1C X XX P 1H"), true},
		{of(t, 0, "X"), false},
		{of(t, 0, "1C P X"), false},
		{of(t, 0, "1C X X"), false},
		{of(t, 0, "1C XX"), false},
		{course{Calls: []uint8{38}}, false},
		{course{Calls: []uint8{4, 38}, Accepted: []int{1}}, false},
		{of(t, 0, "2S 2H"), false},
		{of(t, 0, "2S 2H", 1), true},
		{of(t, 0, "2S 2S", 1), true},
		{of(t, 0, "2S 2NT", 1), false},
		{of(t, 0, "2S", 0), false},
		{of(t, 0, "2S P", 1), false},
		{of(t, 0, "2S X", 1), false},
		{of(t, 0, "2S P X", 2), false},
		{of(t, 0, "2S", 1), false},
		{of(t, 0, "2S 2H", -1, 1), false},
		{of(t, 0, "2S 2H", 1, 1), false},
		{of(t, 0, "2S 2H", 1, 2), false},
		{of(t, 0, "2S 2H 2S 2D", 1, 3), true},
		{of(t, 0, "2S 2H 2S 2D", 3, 1), false},
		{of(t, 0, "2S 2H 2S 2D", 1), false},
		{of(t, 0, "2S 2H 2S 2D", 3), false},
		{of(t, 0, "2S 2H 2S 2D", 1, 2, 3), false},
		// The last bid is the one with the greatest index, though another one is higher.
		{of(t, 0, "2S 2H 2H 2S", 1, 2), true},
		{of(t, 0, "2S 2H X XX", 1), true},
		{of(t, 0, "2S 2H P X", 1), false},
		{of(t, 0, "2S X 2H X", 2), true},
		{of(t, 0, "2S X 2H XX", 2), false},
		// No bid is accepted any more when all is over.
		{of(t, 0, "2S P P P 2H", 4), false},
		{of(t, 0, "2S P P 2H P P P", 3), true},
		{of(t, 0, "2S P P 2H P P P 2C", 3, 7), false},
		{low(400), true},
		{low(401), false},
	} {
		if irregular.Right(c.c) != c.want || isRight(c.c) != c.want {
			t.Errorf("Right(%v) is %t", c.c, irregular.Right(c.c))
		}
		agree(t, c.c)
	}
	for dealer := range 256 {
		if irregular.Right(course{Dealer: uint8(dealer)}) != (dealer < 4) {
			t.Errorf("the dealer %d", dealer)
		}
	}
}

// P10.1
func TestRightDemands(t *testing.T) {
	check := func(c course, want bool) {
		t.Helper()
		if irregular.Right(c) != want {
			t.Errorf("Right(%v) is %t", c, !want)
		}
	}
	ended := []uint8{0, 0, 0, 0}
	for seat := range 4 {
		for _, n := range []int{-1 << 63, -2, -1, 0, 1, 99, 100, 101, 1<<63 - 1} {
			c := course{}
			c.Pass[seat] = n
			check(c, n >= -1 && n <= 100)
			c.Calls = ended
			check(c, n >= -1 && n <= 100)
		}
		for n := range 256 {
			c, d := course{}, course{Calls: ended}
			c.Again[seat], d.Forbid[seat] = uint8(n), uint8(n)
			check(c, n <= 38)
			check(d, n <= 15)
			c.Calls, d.Calls = ended, nil
			check(c, n <= 38)
			check(d, n <= 15)
		}
	}
	for n := range 256 {
		c := course{Change: uint8(n)}
		check(c, n <= 38)
		c.Calls = []uint8{9, 0, 0}
		check(c, n <= 38)
		c.Calls = []uint8{9, 0, 0, 0}
		check(c, n == 0)
		c.Calls = ended
		check(c, n == 0)
	}
}

// P10.1
func TestErrCourse(t *testing.T) {
	for _, c := range []course{of(t, 4, ""), of(t, 0, "P P P P P"), of(t, 0, "2S 2H"), {Change: 39}, {Calls: []uint8{0, 0, 0, 0}, Change: 1}} {
		agree(t, c)
		for _, seat := range []uint8{0, 3, 4, 255} {
			for _, x := range []uint8{0, 1, 37, 38, 255} {
				agreeOn(t, c, seat, x)
				if _, e := irregular.Kind(c, seat, x); e != irregular.ErrCourse {
					t.Errorf("Kind(%v, %d, %d) is %d", c, seat, x, e)
				}
			}
		}
	}
}

// P10.1
func TestLegal(t *testing.T) {
	over := course{Pass: [4]int{-1, -1, -1, -1}, Again: [4]uint8{38, 38, 38, 38}, Calls: []uint8{37, 0, 0, 0}}
	for _, c := range []struct {
		c    course
		turn uint8
		want string
		e    api.Errno
	}{
		{of(t, 1, "7S"), 2, "P X 7NT", api.OK},
		{of(t, 3, "7NT 7H", 1), 1, "P X 7S 7NT", api.OK},
		{of(t, 3, "7NT X 7H", 2), 2, "P X 7S 7NT", api.OK},
		{of(t, 0, "7NT 7H X", 1), 3, "P XX 7S 7NT", api.OK},
		// Pass comes first.
		{demanding(of(t, 0, "7S"), func(c *course) { c.Pass[1] = 1 }), 1, "P", api.OK},
		{demanding(of(t, 0, "7S"), func(c *course) { c.Pass[1] = -1 }), 1, "P", api.OK},
		{demanding(of(t, 0, "7S P"), func(c *course) { c.Pass[2], c.Again[2], c.Change = 1, 38, 38 }), 2, "P", api.OK},
		{demanding(of(t, 0, "7S"), func(c *course) { c.Pass = [4]int{1, 0, 1, 1} }), 1, "P X 7NT", api.OK},
		// Again comes next, if the call is free after a pass.
		{demanding(of(t, 0, ""), func(c *course) { c.Again[0] = 4 }), 0, "1C", api.OK},
		{demanding(of(t, 0, "7S P"), func(c *course) { c.Again[2] = 38 }), 2, "7NT", api.OK},
		{demanding(of(t, 0, "7S P"), func(c *course) { c.Again[2] = 1 }), 2, "P", api.OK},
		{demanding(of(t, 0, "7S P P"), func(c *course) { c.Again[3], c.Change = 2, 9 }), 3, "X", api.OK},
		{demanding(of(t, 0, "7S"), func(c *course) { c.Again[1] = 38 }), 1, "P X 7NT", api.OK},
		{demanding(of(t, 0, "7S P"), func(c *course) { c.Again[2] = 37 }), 2, "P 7NT", api.OK},
		{demanding(of(t, 0, "7S P"), func(c *course) { c.Again[2] = 2 }), 2, "P 7NT", api.OK},
		{demanding(of(t, 0, "7S P"), func(c *course) { c.Again[1] = 38 }), 2, "P 7NT", api.OK},
		// Change takes the doubles only.
		{demanding(of(t, 0, "7S"), func(c *course) { c.Change = 1 }), 1, "P 7NT", api.OK},
		{demanding(of(t, 0, "7S X"), func(c *course) { c.Change = 38 }), 2, "P 7NT", api.OK},
		{demanding(of(t, 0, "7S"), func(c *course) { c.Again[1], c.Change = 38, 2 }), 1, "P 7NT", api.OK},
		{demanding(of(t, 0, "7S P P"), func(c *course) { c.Again[3], c.Change = 20, 2 }), 3, "P 7NT", api.OK},
		{of(t, 0, "P P P P"), 0, "", irregular.ErrOver},
		{over, 0, "", irregular.ErrOver},
		{of(t, 2, "7S 7S P P P", 1), 0, "", irregular.ErrOver},
		{of(t, 0, "7S 7S"), 0, "", irregular.ErrCourse},
	} {
		l, e := irregular.Legal(c.c)
		if s, _ := call.TextAll(l); s != c.want || e != c.e {
			t.Errorf("Legal(%v) is %s, %d, not %s, %d", c.c, s, e, c.want, c.e)
		}
		if turn, e := irregular.Turn(c.c); turn != c.turn || e != c.e {
			t.Errorf("Turn(%v) is %d, %d, not %d, %d", c.c, turn, e, c.turn, c.e)
		}
		agree(t, c.c)
	}
}

// P10.2
func TestDo(t *testing.T) {
	for _, c := range []struct {
		c      course
		x      string
		pass   [4]int
		again  [4]uint8
		forbid [4]uint8
	}{
		{of(t, 0, "2S"), "X", [4]int{}, [4]uint8{}, [4]uint8{}},
		// A turn is spent, but for a seat that must always pass.
		{course{Pass: [4]int{100, 1, 1, 1}}, "P", [4]int{99, 1, 1, 1}, [4]uint8{}, [4]uint8{}},
		{course{Pass: [4]int{1}}, "P", [4]int{}, [4]uint8{}, [4]uint8{}},
		{course{Pass: [4]int{-1}}, "P", [4]int{-1}, [4]uint8{}, [4]uint8{}},
		// What had to be made again is made, or the partner must pass once.
		{course{Again: [4]uint8{4, 5, 6, 7}}, "1C", [4]int{}, [4]uint8{0, 5, 6, 7}, [4]uint8{}},
		{course{Dealer: 1, Calls: []uint8{0, 0}, Again: [4]uint8{3: 4}}, "1C", [4]int{}, [4]uint8{}, [4]uint8{}},
		{course{Calls: []uint8{4, 0}, Again: [4]uint8{2: 4}}, "P", [4]int{}, [4]uint8{}, [4]uint8{}},
		{course{Calls: []uint8{4}, Again: [4]uint8{1: 38}}, "P", [4]int{3: 1}, [4]uint8{}, [4]uint8{}},
		{course{Calls: []uint8{4}, Again: [4]uint8{1: 38}}, "7NT", [4]int{3: 1}, [4]uint8{}, [4]uint8{}},
		{course{Calls: []uint8{4, 1}, Again: [4]uint8{2: 38}}, "XX", [4]int{1}, [4]uint8{}, [4]uint8{}},
		{course{Calls: []uint8{4}, Again: [4]uint8{1: 38}, Pass: [4]int{3: 7}}, "P", [4]int{3: 7}, [4]uint8{}, [4]uint8{}},
		{course{Calls: []uint8{4}, Again: [4]uint8{1: 38}, Pass: [4]int{3: -1}}, "P", [4]int{3: -1}, [4]uint8{}, [4]uint8{}},
		{course{Calls: []uint8{4}, Again: [4]uint8{1: 38}, Pass: [4]int{1: 2}}, "P", [4]int{1: 1, 3: 1}, [4]uint8{}, [4]uint8{}},
		{course{Calls: []uint8{4, 0}, Again: [4]uint8{2: 38}, Pass: [4]int{2: -1}}, "P", [4]int{2: -1}, [4]uint8{}, [4]uint8{}},
		// What is replaced by the cheapest bid of its denomination demands nothing more.
		{course{Calls: []uint8{11}, Change: 11}, "3H", [4]int{}, [4]uint8{}, [4]uint8{}},
		{course{Calls: []uint8{11}, Change: 12}, "3S", [4]int{}, [4]uint8{}, [4]uint8{}},
		{course{Calls: []uint8{11}, Change: 8}, "2NT", [4]int{}, [4]uint8{}, [4]uint8{}},
		{course{Change: 25}, "1D", [4]int{}, [4]uint8{}, [4]uint8{}},
		{course{Calls: []uint8{0, 0}, Change: 38}, "1NT", [4]int{}, [4]uint8{}, [4]uint8{}},
		{course{Calls: []uint8{37, 3}, Accepted: []int{1}, Change: 4}, "2C", [4]int{}, [4]uint8{}, [4]uint8{}},
		// All else silences the partner.
		{course{Calls: []uint8{11}, Change: 11}, "P", [4]int{3: -1}, [4]uint8{}, [4]uint8{3: 4}},
		{course{Calls: []uint8{11}, Change: 11}, "4H", [4]int{3: -1}, [4]uint8{}, [4]uint8{3: 4}},
		{course{Calls: []uint8{11}, Change: 11}, "2NT", [4]int{3: -1}, [4]uint8{}, [4]uint8{3: 4}},
		{course{Change: 25}, "2D", [4]int{2: -1}, [4]uint8{}, [4]uint8{2: 2}},
		{course{Calls: []uint8{11}, Change: 8}, "3NT", [4]int{3: -1}, [4]uint8{}, [4]uint8{3: 15}},
		{course{Calls: []uint8{11}, Change: 4, Pass: [4]int{3: 9}, Forbid: [4]uint8{3: 9}}, "P", [4]int{3: -1}, [4]uint8{}, [4]uint8{3: 9}},
		{course{Calls: []uint8{11}, Change: 7, Forbid: [4]uint8{1, 2, 4, 1}}, "P", [4]int{3: -1}, [4]uint8{}, [4]uint8{1, 2, 4, 9}},
		{course{Calls: []uint8{11}, Change: 1}, "P", [4]int{3: -1}, [4]uint8{}, [4]uint8{}},
		{course{Calls: []uint8{11}, Change: 2}, "2NT", [4]int{3: -1}, [4]uint8{}, [4]uint8{}},
		{course{Calls: []uint8{11}, Change: 3}, "P", [4]int{3: -1}, [4]uint8{}, [4]uint8{}},
		{course{Calls: []uint8{11}, Change: 3, Again: [4]uint8{1: 9}}, "P", [4]int{3: -1}, [4]uint8{}, [4]uint8{}},
		{course{Calls: []uint8{11}, Change: 3, Pass: [4]int{1: 1}}, "P", [4]int{3: -1}, [4]uint8{}, [4]uint8{}},
		// No bid of the denomination is left: a pass does not stand for it.
		{course{Calls: []uint8{36}, Change: 36}, "P", [4]int{3: -1}, [4]uint8{}, [4]uint8{3: 4}},
		{course{Calls: []uint8{37}, Change: 38}, "P", [4]int{3: -1}, [4]uint8{}, [4]uint8{3: 15}},
	} {
		x := read(t, c.x)
		want := course{Dealer: c.c.Dealer, Calls: append(slices.Clone(c.c.Calls), x), Accepted: c.c.Accepted, Pass: c.pass, Again: c.again, Forbid: c.forbid}
		if got, e := irregular.Do(c.c, x); !same(got, want) || e != api.OK {
			t.Errorf("Do(%v, %s) is %v, %d, not %v", c.c, c.x, got, e, want)
		}
		agreeOn(t, c.c, 0, x)
	}
}

// P10.2
func TestDoErrors(t *testing.T) {
	long := low(400)
	for _, c := range []struct {
		c course
		x uint8
		e api.Errno
	}{
		{of(t, 4, ""), 99, irregular.ErrCourse},
		{of(t, 0, "P P P P"), 99, irregular.ErrOver},
		{of(t, 0, "P P P P"), 0, irregular.ErrOver},
		{of(t, 0, "2S"), 38, irregular.ErrCall},
		{of(t, 0, "2S"), 255, irregular.ErrCall},
		{of(t, 0, "2S"), 11, irregular.ErrCall},
		{of(t, 0, "2S"), 2, irregular.ErrCall},
		{course{Pass: [4]int{1}}, 3, irregular.ErrCall},
		{course{Again: [4]uint8{4}}, 0, irregular.ErrCall},
		{course{Calls: []uint8{11}, Change: 11}, 1, irregular.ErrCall},
		{long, 3, irregular.ErrCall},
		{long, 99, irregular.ErrCall},
		{long, 0, api.ErrMany},
		{long, 37, api.ErrMany},
		{low(399), 0, api.OK},
	} {
		got, e := irregular.Do(c.c, c.x)
		if e != c.e || e != api.OK && !same(got, course{}) {
			t.Errorf("Do(%v, %d) is %v, %d, not %d", c.c, c.x, got, e, c.e)
		}
	}
}

// P10.3
func TestKind(t *testing.T) {
	for _, c := range []struct {
		c    course
		seat uint8
		x    string
		want uint8
	}{
		{of(t, 0, "2S"), 1, "2H", irregular.KindLow},
		{of(t, 0, "2S"), 1, "2S", irregular.KindLow},
		{of(t, 0, "2S"), 1, "2NT", irregular.KindNone},
		{of(t, 0, "2S 2H", 1), 2, "2S", irregular.KindNone},
		{of(t, 0, "2S 2H", 1), 2, "2H", irregular.KindLow},
		{of(t, 0, "2S"), 1, "X", irregular.KindNone},
		{of(t, 0, "2S"), 1, "XX", irregular.KindDouble},
		{of(t, 0, "2S P"), 2, "X", irregular.KindDouble},
		{of(t, 0, ""), 0, "X", irregular.KindDouble},
		{of(t, 0, ""), 1, "1C", irregular.KindRight},
		{of(t, 0, ""), 2, "1C", irregular.KindPartner},
		{of(t, 0, ""), 3, "1C", irregular.KindLeft},
		{of(t, 3, ""), 0, "P", irregular.KindRight},
		{of(t, 3, ""), 1, "X", irregular.KindPartner},
		{of(t, 3, ""), 2, "7NT", irregular.KindLeft},
		{of(t, 0, "1C"), 0, "1D", irregular.KindLeft},
		// A call out of turn is one, whatever the call is.
		{of(t, 0, "2S"), 2, "1C", irregular.KindRight},
		{of(t, 0, "2S"), 2, "XX", irregular.KindRight},
		{of(t, 0, "P P P P"), 0, "P", irregular.KindAfter},
		{of(t, 0, "P P P P"), 3, "X", irregular.KindAfter},
		{of(t, 0, "2S P P P"), 1, "1C", irregular.KindAfter},
		{course{Pass: [4]int{1}}, 0, "P", irregular.KindNone},
		{course{Pass: [4]int{1}}, 0, "1C", irregular.KindForced},
		{course{Pass: [4]int{1}}, 0, "X", irregular.KindDouble},
		{course{Calls: []uint8{11}, Pass: [4]int{1: -1}}, 1, "2S", irregular.KindLow},
		{course{Calls: []uint8{11}, Pass: [4]int{1: -1}}, 1, "X", irregular.KindForced},
		{course{Calls: []uint8{11}, Pass: [4]int{1: -1}}, 1, "2NT", irregular.KindForced},
		{course{Again: [4]uint8{4}}, 0, "1C", irregular.KindNone},
		{course{Again: [4]uint8{4}}, 0, "P", irregular.KindForced},
		{course{Again: [4]uint8{4}}, 0, "1D", irregular.KindForced},
		{course{Calls: []uint8{11}, Change: 11}, 1, "X", irregular.KindForced},
		{course{Calls: []uint8{11}, Change: 11}, 1, "XX", irregular.KindDouble},
		{course{Calls: []uint8{11}, Change: 11}, 1, "2H", irregular.KindLow},
		{course{Calls: []uint8{11}, Change: 11}, 1, "7C", irregular.KindNone},
	} {
		if kind, e := irregular.Kind(c.c, c.seat, read(t, c.x)); kind != c.want || e != api.OK {
			t.Errorf("Kind(%v, %d, %s) is %d, %d, not %d", c.c, c.seat, c.x, kind, e, c.want)
		}
	}
}

// P10.3 to P10.5
func TestKindErrors(t *testing.T) {
	for _, c := range []struct {
		c       course
		seat, x uint8
		e       api.Errno
	}{
		{of(t, 4, ""), 4, 38, irregular.ErrCourse},
		{of(t, 0, ""), 4, 38, api.ErrArg},
		{of(t, 0, ""), 255, 0, api.ErrArg},
		{of(t, 0, ""), 0, 38, call.ErrCall},
		{of(t, 0, ""), 3, 255, call.ErrCall},
		{of(t, 0, "P P P P"), 4, 0, api.ErrArg},
		{of(t, 0, "P P P P"), 0, 38, call.ErrCall},
	} {
		kind, e := irregular.Kind(c.c, c.seat, c.x)
		accepted, f := irregular.Accept(c.c, c.seat, c.x)
		refused, g := irregular.Refuse(c.c, c.seat, c.x)
		if kind != 0 || e != c.e || f != c.e || g != c.e || !same(accepted, course{}) || !same(refused, course{}) {
			t.Errorf("the errors of %v, %d, %d are %d, %d, %d, not %d", c.c, c.seat, c.x, e, f, g, c.e)
		}
	}
	for _, x := range []uint8{0, 3, 37} {
		_, e := irregular.Accept(course{}, 0, x)
		_, f := irregular.Refuse(course{}, 0, x)
		if e != api.ErrNone || f != api.ErrNone {
			t.Errorf("a call %d that is regular: %d, %d", x, e, f)
		}
	}
}

// P10.4
func TestAccept(t *testing.T) {
	for _, c := range []struct {
		c    course
		seat uint8
		x    string
		want course
		e    api.Errno
	}{
		{of(t, 0, "2S"), 1, "2H", of(t, 0, "2S 2H", 1), api.OK},
		{of(t, 0, "2S 2H P", 1), 3, "1C", of(t, 0, "2S 2H P 1C", 1, 3), api.OK},
		{of(t, 0, ""), 1, "1C", of(t, 0, "P 1C"), api.OK},
		{of(t, 0, ""), 2, "1C", of(t, 0, "P P 1C"), api.OK},
		{of(t, 0, ""), 3, "1C", of(t, 0, "P P P 1C"), api.OK},
		{of(t, 0, ""), 3, "P", of(t, 0, "P P P P"), api.OK},
		{of(t, 0, "1C"), 2, "P", of(t, 0, "1C P P"), api.OK},
		{of(t, 0, "1C"), 3, "P", of(t, 0, "1C P P P"), api.OK},
		{of(t, 0, "1C"), 3, "X", of(t, 0, "1C P P X"), api.OK},
		{of(t, 0, "1C X"), 0, "XX", of(t, 0, "1C X P P XX"), api.OK},
		// The course would be over before the call.
		{of(t, 0, "1C"), 0, "1D", course{}, irregular.ErrFirm},
		{of(t, 0, "1C P"), 0, "1D", course{}, irregular.ErrFirm},
		{of(t, 0, "1C P P"), 0, "P", course{}, irregular.ErrFirm},
		{of(t, 0, "1C P P"), 2, "1D", course{}, irregular.ErrFirm},
		{of(t, 0, "P"), 0, "P", course{}, irregular.ErrFirm},
		{of(t, 0, "P P"), 1, "1C", course{}, irregular.ErrFirm},
		{of(t, 0, "P P P"), 2, "1C", course{}, irregular.ErrFirm},
		{of(t, 0, "P P"), 3, "1C", of(t, 0, "P P P 1C"), api.OK},
		// The call would not be free.
		{of(t, 0, "1C"), 2, "X", course{}, irregular.ErrFirm},
		{of(t, 0, "1C"), 3, "1C", course{}, irregular.ErrFirm},
		{of(t, 0, ""), 1, "X", course{}, irregular.ErrFirm},
		{of(t, 0, "1C X"), 3, "XX", course{}, irregular.ErrFirm},
		{of(t, 0, "2S 2H", 1), 3, "2H", course{}, irregular.ErrFirm},
		{of(t, 0, "2S 2H", 1), 3, "2S", of(t, 0, "2S 2H P 2S", 1), api.OK},
		// Other kinds.
		{of(t, 0, ""), 0, "X", course{}, irregular.ErrFirm},
		{of(t, 0, "P P P P"), 0, "P", course{}, irregular.ErrFirm},
		{course{Pass: [4]int{1}}, 0, "1C", course{}, irregular.ErrFirm},
		{course{Pass: [4]int{1}}, 0, "P", course{}, api.ErrNone},
		{course{Calls: []uint8{11}, Pass: [4]int{1: 1}}, 1, "2H", of(t, 0, "2S 2H", 1), api.OK},
		{low(400), 0, "1C", course{}, api.ErrMany},
		{low(400), 1, "P", course{}, api.ErrMany},
		{low(399), 0, "1D", course{}, api.ErrMany},
		{low(400), 1, "1C", course{}, irregular.ErrFirm},
		{low(400), 0, "XX", course{}, irregular.ErrFirm},
		{low(400), 0, "P", course{}, api.ErrNone},
		{low(397), 1, "1NT", course{}, api.ErrNone},
		{low(399), 3, "1C", low(400), api.OK},
	} {
		got, e := irregular.Accept(c.c, c.seat, read(t, c.x))
		if e != c.e || e == api.OK && !same(got, c.want) || e != api.OK && !same(got, course{}) {
			t.Errorf("Accept(%v, %d, %s) is %v, %d, not %v, %d", c.c, c.seat, c.x, got, e, c.want, c.e)
		}
		agreeOn(t, c.c, c.seat, read(t, c.x))
	}
}

// P10.4
func TestAcceptEndsDemands(t *testing.T) {
	c := course{Calls: []uint8{3}, Pass: [4]int{5, 1, -1, 3}, Again: [4]uint8{9, 8, 7, 6}, Change: 9, Forbid: [4]uint8{1, 2, 3, 4}}
	for _, a := range []struct {
		seat, x  uint8
		calls    []uint8
		accepted []int
		pass     [4]int
		again    [4]uint8
	}{
		{1, 3, []uint8{3, 3}, []int{1}, [4]int{5, 0, -1, 3}, [4]uint8{9, 0, 7, 6}},
		{2, 4, []uint8{3, 0, 4}, nil, [4]int{5, 0, -1, 3}, [4]uint8{9, 0, 0, 6}},
		{3, 4, []uint8{3, 0, 0, 4}, nil, [4]int{5, 0, -1, 2}, [4]uint8{9}},
	} {
		want := course{Calls: a.calls, Accepted: a.accepted, Pass: a.pass, Again: a.again, Forbid: c.Forbid}
		if got, e := irregular.Accept(c, a.seat, a.x); !same(got, want) || e != api.OK {
			t.Errorf("Accept(%v, %d, %d) is %v, %d, not %v", c, a.seat, a.x, got, e, want)
		}
	}
}

// P10.5
func TestRefuse(t *testing.T) {
	open := of(t, 0, "2S")
	held := demanding(open, func(c *course) { c.Pass = [4]int{2, 3, -1, 4} })
	full := demanding(open, func(c *course) { c.Again, c.Change, c.Forbid = [4]uint8{9, 9, 9, 9}, 9, [4]uint8{1, 1, 1, 1} })
	for _, c := range []struct {
		c      course
		seat   uint8
		x      string
		change func(c *course)
	}{
		{open, 1, "2H", func(c *course) { c.Change = 11 }},
		{open, 1, "2S", func(c *course) { c.Change = 12 }},
		{open, 1, "XX", func(c *course) { c.Change = 3 }},
		{of(t, 0, "2S P"), 2, "X", func(c *course) { c.Change = 2 }},
		{full, 1, "1C", func(c *course) { c.Change = 4 }},
		{open, 2, "P", func(c *course) { c.Pass[2] = 1 }},
		{held, 2, "P", func(c *course) {}},
		{open, 2, "X", func(c *course) { c.Again[2] = 2 }},
		{open, 2, "1C", func(c *course) { c.Again[2] = 4 }},
		{full, 2, "7NT", func(c *course) { c.Again[2] = 38 }},
		{open, 3, "P", func(c *course) { c.Pass[3] = 1 }},
		{held, 3, "P", func(c *course) {}},
		{open, 3, "X", func(c *course) { c.Pass[3] = -1 }},
		{open, 3, "3C", func(c *course) { c.Pass[3], c.Forbid[1] = -1, 1 }},
		{held, 3, "3S", func(c *course) { c.Pass[3], c.Forbid[1] = -1, 8 }},
		{full, 3, "1C", func(c *course) { c.Pass[3] = -1 }},
		{full, 3, "1H", func(c *course) { c.Pass[3], c.Forbid[1] = -1, 5 }},
		{full, 3, "3NT", func(c *course) { c.Pass[3], c.Forbid[1] = -1, 15 }},
		{open, 0, "P", func(c *course) {}},
		{open, 0, "X", func(c *course) { c.Pass[2] = 1 }},
		{open, 0, "3C", func(c *course) { c.Pass[2] = 1 }},
		{held, 0, "3C", func(c *course) {}},
		{of(t, 0, "2S P P P"), 0, "3C", func(c *course) {}},
		{of(t, 0, "P P P P"), 2, "P", func(c *course) {}},
		{held, 1, "7C", func(c *course) {}},
		{held, 1, "X", func(c *course) {}},
		{low(400), 2, "X", func(c *course) { c.Pass[2] = -1 }},
	} {
		want := demanding(copied(c.c), c.change)
		if got, e := irregular.Refuse(c.c, c.seat, read(t, c.x)); !same(got, want) || e != api.OK {
			t.Errorf("Refuse(%v, %d, %s) is %v, %d, not %v", c.c, c.seat, c.x, got, e, want)
		}
		agreeOn(t, c.c, c.seat, read(t, c.x))
	}
}

// P10.6
func TestContract(t *testing.T) {
	forbid := [4]uint8{1, 2, 4, 8}
	for _, c := range []struct {
		c    course
		want api.Contract
		lead uint8
		e, f api.Errno
	}{
		{of(t, 0, "2S P P P"), api.Contract{Level: 2, Denom: 3}, 2, api.OK, api.OK},
		{of(t, 2, "2S X XX P P P"), api.Contract{Level: 2, Denom: 3, Risk: 2, Declarer: 2}, 8, api.OK, api.OK},
		// The last bid counts, though it is lower.
		{of(t, 0, "2S 2H P P P", 1), api.Contract{Level: 2, Denom: 2, Declarer: 1}, 4, api.OK, api.OK},
		{of(t, 0, "2D P 1D P P P", 2), api.Contract{Level: 1, Denom: 1}, 2, api.OK, api.OK},
		{of(t, 1, "2D 1D P P P", 1), api.Contract{Level: 1, Denom: 1, Declarer: 2}, 8, api.OK, api.OK},
		{of(t, 0, "1C 1D 2C 2D 2C X P P P", 4), api.Contract{Level: 2, Denom: 0, Risk: 1}, 2, api.OK, api.OK},
		{of(t, 0, "2H X XX 2D 2H P 1H P P P", 3, 6), api.Contract{Level: 1, Denom: 2}, 2, api.OK, api.OK},
		{of(t, 3, "P P P P"), api.Contract{}, 0, api.OK, api.ErrNone},
		{of(t, 3, "P P P"), api.Contract{}, 0, irregular.ErrOpen, irregular.ErrOpen},
		{of(t, 3, ""), api.Contract{}, 0, irregular.ErrOpen, irregular.ErrOpen},
		{of(t, 3, "2S 2H P P", 1), api.Contract{}, 0, irregular.ErrOpen, irregular.ErrOpen},
		{of(t, 3, "P P P P P"), api.Contract{}, 0, irregular.ErrCourse, irregular.ErrCourse},
		{of(t, 4, "P P P"), api.Contract{}, 0, irregular.ErrCourse, irregular.ErrCourse},
	} {
		c.c.Forbid = forbid
		if made, e := irregular.Contract(c.c); made != c.want || e != c.e {
			t.Errorf("Contract(%v) is %v, %d, not %v, %d", c.c, made, e, c.want, c.e)
		}
		if lead, e := irregular.Lead(c.c); lead != c.lead || e != c.f {
			t.Errorf("Lead(%v) is %d, %d, not %d, %d", c.c, lead, e, c.lead, c.f)
		}
		agree(t, c.c)
	}
}
