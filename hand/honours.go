package hand

import "math/bits"

// The ranks of the honours.
const (
	jack = iota + ranks - 4
	queen
	king
	ace
)

// total adds up what the suits of a hand count.
func total(m uint64, count func(holding uint16) int) int {
	sum := 0
	for suit := range uint8(suits) {
		sum += count(Holding(m, suit))
	}
	return sum
}

// adder returns a closure that adds up what the ranks of a suit are worth.
func adder(values [ranks]int) func(holding uint16) int {
	return func(holding uint16) int {
		sum := 0
		for rank, value := range values {
			if has(holding, rank) {
				sum += value
			}
		}
		return sum
	}
}

// losers counts the first three cards of a suit, as far as there are so many, without the honour that covers each of them.
func losers(holding uint16) int {
	lost := 0
	for before, honour := range [...]int{ace, king, queen} {
		if length(holding) > before && !has(holding, honour) {
			lost++
		}
	}
	return lost
}

func quick(holding uint16) int {
	switch {
	case has(holding, ace) && has(holding, king):
		return 4
	case has(holding, ace) && has(holding, queen):
		return 3
	case has(holding, ace), has(holding, king) && has(holding, queen):
		return 2
	case has(holding, king) && length(holding) >= 2:
		return 1
	}
	return 0
}

func has(holding uint16, rank int) bool { return holding>>rank&1 == 1 }

func length(holding uint16) int { return bits.OnesCount16(holding) }
