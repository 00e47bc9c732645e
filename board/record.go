package board

import (
	"strconv"
	"strings"

	"finesse/api"
	"finesse/deal"
)

// gap is between two parts of a text; parts how many it has.
const (
	gap   = " "
	parts = 4
)

// letters are those of the seats, each at its number.
const letters = "NESW"

// sides has the word of each vulnerability.
var sides = [kinds]string{"none", "NS", "EW", "both"}

// Record is a board with its deal.
type Record struct {
	Number int
	Deal   api.Deal
}

// Turn returns the record of the same board whose deal is turned by k seats.
func Turn(r Record, k int) (Record, api.Errno) {
	if e := fault(r); e != api.OK {
		return Record{}, e
	}
	return Record{Number: r.Number, Deal: deal.Turn(r.Deal, k)}, api.OK
}

// Text returns a record as text.
func Text(r Record) (string, api.Errno) {
	if e := fault(r); e != api.OK {
		return "", e
	}
	dealer, _ := Dealer(r.Number)
	vul, _ := Vulnerability(r.Number)
	hands, _ := deal.Text(r.Deal)
	words := [parts]string{strconv.Itoa(r.Number), letters[dealer : dealer+1], sides[vul], hands}
	return strings.Join(words[:], gap), api.OK
}

// Read returns the record with a text.
func Read(s string) (Record, api.Errno) {
	words := strings.SplitN(s, gap, parts)
	if len(words) != parts {
		return Record{}, ErrText
	}
	// What is no number, or no deal, gives a record that is not right, which has no text.
	number, _ := strconv.Atoi(words[0])
	hands, _ := deal.Read(words[parts-1])
	r := Record{Number: number, Deal: hands}
	// The number decides the dealer and the vulnerability, and has one way to be written: the text tells whether all of it was right.
	if text, e := Text(r); e != api.OK || text != s {
		return Record{}, ErrText
	}
	return r, api.OK
}

// fault returns why a record is not right, if it is not.
func fault(r Record) api.Errno {
	if !isBoard(r.Number) {
		return ErrBoard
	}
	if !deal.Right(r.Deal) {
		return deal.ErrDeal
	}
	return api.OK
}
