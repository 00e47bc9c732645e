package seed

import "testing"

// At most 36 draws in a row are too great, from whatever state (all were walked once, with half of the draws too great), so the limit is tested where every draw can be called too great.

// counted is a draw that returns how many draws there were.
func counted() func(State) (State, int) {
	draws := 0
	return func(s State) (State, int) {
		draws++
		return s + 2, draws
	}
}

// P3.3
func TestDrawsThatAreTooGreat(t *testing.T) {
	for _, c := range []struct{ small, want int }{
		{1, 1}, {2, 2}, {3, 3}, {99, 99}, {100, 100}, {101, 101}, {102, 101}, {1000, 101},
	} {
		s, drawn := firstSmall(7, counted(), func(n int) bool { return n >= c.small })
		if drawn != c.want || s != State(7+2*c.want) {
			t.Errorf("if draw %d is the first small one, draw %d with the state %d is taken", c.small, drawn, s)
		}
	}
}

// P3.3
func TestSmallIsNotAskedOfTheLastDraw(t *testing.T) {
	asked := 0
	firstSmall(1, counted(), func(int) bool {
		asked++
		return false
	})
	if asked != 100 {
		t.Errorf("%d draws were compared", asked)
	}
}
