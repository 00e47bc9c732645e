package call

import (
	"iter"
	"strings"

	"finesse/api"
)

// gap is between the strings of two calls.
const gap = " "

// texts has the string of each call, at its number.
var texts = [api.MaxCall + 1]string{
	pass: "P", double: "X", redouble: "XX",
	lowest: "1C", "1D", "1H", "1S", "1NT",
	"2C", "2D", "2H", "2S", "2NT",
	"3C", "3D", "3H", "3S", "3NT",
	"4C", "4D", "4H", "4S", "4NT",
	"5C", "5D", "5H", "5S", "5NT",
	"6C", "6D", "6H", "6S", "6NT",
	"7C", "7D", "7H", "7S", "7NT",
}

// Text returns the string of a call.
func Text(c uint8) (string, api.Errno) {
	if !Right(c) {
		return "", ErrCall
	}
	return texts[c], api.OK
}

// Read returns the call whose string is given.
func Read(s string) (uint8, api.Errno) {
	for c, text := range texts {
		if text == s {
			return uint8(c), api.OK
		}
	}
	return 0, ErrText
}

// TextAll returns the string of calls.
func TextAll(l []uint8) (string, api.Errno) {
	if len(l) > MaxCalls {
		return "", api.ErrMany
	}
	var words []string
	for word, e := range written(l) {
		if e != api.OK {
			return "", e
		}
		words = append(words, word)
	}
	return strings.Join(words, gap), api.OK
}

// ReadAll returns the calls whose string is given.
func ReadAll(s string) ([]uint8, api.Errno) {
	// No calls have the empty string, which would be split into one word.
	if s == "" {
		return nil, api.OK
	}
	if strings.Count(s, gap) >= MaxCalls {
		return nil, ErrText
	}
	var l []uint8
	for _, word := range strings.Split(s, gap) {
		c, e := Read(word)
		if e != api.OK {
			return nil, e
		}
		l = append(l, c)
	}
	return l, api.OK
}

// written yields the string of each call of a list, or why it has none.
func written(l []uint8) iter.Seq2[string, api.Errno] {
	return func(yield func(string, api.Errno) bool) {
		for _, c := range l {
			if !yield(Text(c)) {
				return
			}
		}
	}
}
