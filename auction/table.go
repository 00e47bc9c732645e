package auction

import (
	"slices"
	"strings"

	"finesse/api"
	"finesse/call"
)

const (
	blank = " "
	// width is how many bytes a cell has.
	width = 5
	// before is in the cells of the seats before the dealer, asked in the one of the seat whose turn it is.
	before = "-"
	asked  = "?"
)

// row is a line of a table: the words in the cells of the four seats.
type row [seats]string

// Table returns the table of an auction.
func Table(dealer uint8, l []uint8) ([]string, api.Errno) {
	s, e := right(dealer, l)
	if e != api.OK {
		return nil, e
	}
	words := slices.Repeat([]string{before}, int(dealer))
	for _, c := range l {
		word, _ := call.Text(c)
		words = append(words, word)
	}
	if !s.over() {
		words = append(words, asked)
	}
	var table []string
	for _, r := range rows(words) {
		table = append(table, r.text())
	}
	return table, api.OK
}

// Read returns the auction whose table is given.
func Read(table []string) (uint8, []uint8, api.Errno) {
	var words []string
	for _, line := range table {
		if len(line) != width*len(row{}) {
			return 0, nil, ErrText
		}
		r := cut(line)
		words = append(words, r[:]...)
	}
	dealer, l := taken(words)
	// What was taken is right if it has this table, and no other one.
	if again, e := Table(dealer, l); e != api.OK || !slices.Equal(again, table) {
		return 0, nil, ErrText
	}
	return dealer, l, api.OK
}

// rows puts words into lines; the cells after the last word are empty.
func rows(words []string) []row {
	n := len(row{})
	l := make([]row, (len(words)+n-1)/n)
	for i, word := range words {
		l[i/n][i%n] = word
	}
	return l
}

func (r row) text() string {
	var b strings.Builder
	for _, word := range r {
		b.WriteString(word)
		b.WriteString(strings.Repeat(blank, width-len(word)))
	}
	return b.String()
}

// cut returns the words of a line.
func cut(line string) row {
	var r row
	for i := range r {
		r[i] = strings.TrimRight(line[width*i:width*(i+1)], blank)
	}
	return r
}

// taken returns the dealer and the calls that words begin with.
func taken(words []string) (uint8, []uint8) {
	var dealer uint8
	for int(dealer) < min(len(words), len(row{})) && words[dealer] == before {
		dealer++
	}
	var l []uint8
	for _, word := range words[dealer:] {
		c, e := call.Read(word)
		if e != api.OK {
			break
		}
		l = append(l, c)
	}
	return dealer, l
}
