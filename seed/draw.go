package seed

import (
	"iter"

	"finesse/nat"
)

// A step multiplies a state by multiplier, modulo modulus.
const (
	multiplier = 48271
	modulus    = Values + 1
)

// maxTooGreat is after how many draws that were too great the next one is taken as it is.
const maxTooGreat = 100

// remainder returns n modulo Values, also for n less than 0.
func remainder(n int) int { return (n%Values + Values) % Values }

// step needs a right state.
func step(s State) (State, int) {
	s = s * multiplier % modulus
	return s, int(s) - 1
}

// powers yields what a state is multiplied by for k steps: the powers for 1, 2, 4 .. steps that make up k.
func powers(k int) iter.Seq[State] {
	return func(yield func(State) bool) {
		power := State(multiplier)
		for left := k; left > 0; left /= 2 {
			if left%2 == 1 && !yield(power) {
				return
			}
			power = power * power % modulus
		}
	}
}

// firstSmall draws until what is drawn is small enough.
func firstSmall[T any](s State, draw func(State) (State, T), small func(T) bool) (State, T) {
	for range maxTooGreat {
		var drawn T
		if s, drawn = draw(s); small(drawn) {
			return s, drawn
		}
	}
	return draw(s)
}

// digits returns how many values are taken for a number below n, and how many numbers they can make. For n up to 2^120 these are 4 values at most, and their numbers fit.
func digits(n nat.N) (int, nat.N) {
	k, numbers := 1, nat.N{Values}
	for nat.Cmp(numbers, n) < 0 {
		k++
		numbers, _ = nat.Mul(numbers, nat.N{Values})
	}
	return k, numbers
}

// number takes k values, the first of them as the lowest digit.
func number(s State, k int) (State, nat.N) {
	sum, unit := nat.N{}, nat.N{1}
	for range k {
		var value int
		s, value = step(s)
		digit, _ := nat.Of(value)
		part, _ := nat.Mul(digit, unit)
		sum, _ = nat.Add(sum, part)
		unit, _ = nat.Mul(unit, nat.N{Values})
	}
	return s, sum
}

// modulo needs an n other than 0.
func modulo(a, n nat.N) nat.N {
	_, rest, _ := nat.Div(a, n)
	return rest
}
