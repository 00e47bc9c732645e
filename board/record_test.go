package board_test

import (
	"math"
	"math/rand"
	"strconv"
	"strings"
	"testing"

	"finesse/api"
	"finesse/board"
	"finesse/deal"
)

const suitsText = "N:...AKQJT98765432 ..AKQJT98765432. .AKQJT98765432.. AKQJT98765432..."

// heads is what the texts of the boards 1 to 16 have between the number and the deal.
var heads = [16]string{
	"N none", "E NS", "S EW", "W both",
	"N NS", "E EW", "S both", "W none",
	"N EW", "E both", "S none", "W NS",
	"N both", "E none", "S NS", "W EW",
}

// P7.4
func TestTurn(t *testing.T) {
	steps := []int{math.MinInt, math.MinInt + 1, math.MinInt + 3, math.MaxInt, math.MaxInt - 1, 1 << 32, 1<<62 + 2, -1<<62 - 1}
	for k := -9; k <= 9; k++ {
		steps = append(steps, k)
	}
	for i, d := range rights() {
		for _, k := range steps {
			n := (i+k&127)%128 + 1
			r, e := board.Turn(board.Record{Number: n, Deal: d}, k)
			if r.Number != n || r.Deal != deal.Turn(d, k) || e != api.OK {
				t.Fatalf("the board %d with %x turned by %d is %v, %d", n, d, k, r, e)
			}
		}
	}
	for n := 1; n <= 128; n++ {
		r, e := board.Turn(board.Record{Number: n, Deal: suits}, 1)
		if r != (board.Record{Number: n, Deal: api.Deal{suits[3], suits[0], suits[1], suits[2]}}) || e != api.OK {
			t.Errorf("the board %d turned by 1 is %v, %d", n, r, e)
		}
	}
}

// P7.5
func TestTextsOfAllBoards(t *testing.T) {
	for n := 1; n <= 128; n++ {
		want := strconv.Itoa(n) + " " + heads[(n-1)%16] + " " + suitsText
		r := board.Record{Number: n, Deal: suits}
		if text, e := board.Text(r); text != want || e != api.OK {
			t.Errorf("the text of %v is %q, %d", r, text, e)
		}
		if got, e := board.Read(want); got != r || e != api.OK {
			t.Errorf("%q is read as %v, %d", want, got, e)
		}
	}
	if text, e := board.Text(board.Record{Number: 7, Deal: suits}); text != "7 S both N:...AKQJT98765432 ..AKQJT98765432. .AKQJT98765432.. AKQJT98765432..." || e != api.OK {
		t.Errorf("the text of the board 7 is %q, %d", text, e)
	}
}

// P7.5, P7.6
func TestWhatIsWrittenIsReadBack(t *testing.T) {
	for i, d := range rights() {
		for n := i%7 + 1; n <= 128; n += 7 {
			r := board.Record{Number: n, Deal: d}
			text, e := board.Text(r)
			hands, _ := deal.Text(d)
			if want := strconv.Itoa(n) + " " + heads[(n-1)%16] + " " + hands; text != want || e != api.OK {
				t.Errorf("the text of %v is %q, %d", r, text, e)
			}
			if got, e := board.Read(text); got != r || e != api.OK {
				t.Errorf("%q is read as %v, %d", text, got, e)
			}
		}
	}
}

// P7.4, P7.5
func TestRecordsThatAreNotRight(t *testing.T) {
	check := func(r board.Record, want api.Errno) {
		if text, e := board.Text(r); text != "" || e != want {
			t.Errorf("the text of %v is %q, %d", r, text, e)
		}
		for k := -1; k <= 4; k++ {
			if turned, e := board.Turn(r, k); turned != (board.Record{}) || e != want {
				t.Errorf("%v turned by %d is %v, %d", r, k, turned, e)
			}
		}
	}
	for _, n := range notBoards {
		check(board.Record{Number: n, Deal: suits}, board.ErrBoard)
		for _, d := range notRights() {
			check(board.Record{Number: n, Deal: d}, board.ErrBoard)
		}
	}
	for n := 1; n <= 128; n++ {
		for _, d := range notRights() {
			check(board.Record{Number: n, Deal: d}, deal.ErrDeal)
		}
	}
}

// refused checks that a string is no text of a record.
func refused(t *testing.T, s string) {
	t.Helper()
	if r, e := board.Read(s); r != (board.Record{}) || e != board.ErrText {
		t.Errorf("%.80q is read as %v, %d", s, r, e)
	}
}

// P7.5: of each number only its own dealer and vulnerability.
func TestReadWantsTheDealerAndTheVulnerability(t *testing.T) {
	for n := 1; n <= 128; n++ {
		for _, dealer := range []string{"N", "E", "S", "W"} {
			for _, vul := range []string{"none", "NS", "EW", "both"} {
				if head := dealer + " " + vul; head != heads[(n-1)%16] {
					refused(t, strconv.Itoa(n)+" "+head+" "+suitsText)
				}
			}
		}
	}
	refused(t, "7 N both "+suitsText)
}

// P7.5
func TestReadWantsANumberOfABoard(t *testing.T) {
	for _, n := range notBoards {
		for _, head := range heads {
			refused(t, strconv.Itoa(n)+" "+head+" "+suitsText)
		}
	}
	for _, n := range []string{"", "+1", "-1", "01", "001", "1.", "1.0", "1e0", "0x1", "0b1", "1_", "one", "N", "\t1", "1\t", "\xff1", "17 ", "１", "257", "65537", "4294967297", "18446744073709551617", "99999999999999999999", strings.Repeat("0", 1<<16) + "1", strings.Repeat("1", 1<<16)} {
		refused(t, n+" N none "+suitsText)
	}
}

// P7.5
func TestStringsThatAreNoTexts(t *testing.T) {
	const s = "1 N none " + suitsText
	for _, x := range []string{
		"", " ", "  ", "   ", "    ", "1", "1 ", "1 N", "1 N ", "1 N none", "1 N none ", "1 N none N:", "N none " + suitsText, "1 none " + suitsText, "1 N " + suitsText, suitsText,
		" " + s, s + " ", s + "\n", "\n" + s, s + "\x00", s + " " + s, s + s, "1  N none " + suitsText, "1 N  none " + suitsText, "1 N none  " + suitsText, "1\tN\tnone\t" + suitsText, "1,N,none," + suitsText,
		"1 n none " + suitsText, "1 North none " + suitsText, "1 0 none " + suitsText, "1 N None " + suitsText, "1 N NONE " + suitsText, "1 N - " + suitsText, "1 N 0 " + suitsText, "1 N  " + suitsText, "1  none " + suitsText,
		"2 E ns " + suitsText, "2 E N-S " + suitsText, "2 E SN " + suitsText, "3 S WE " + suitsText, "4 W all " + suitsText, "4 W Both " + suitsText, "4 W NSEW " + suitsText, "none N 1 " + suitsText, "N 1 none " + suitsText,
		"1 N none " + suitsText[2:], "1 N none n" + suitsText[1:], "1 N none E" + suitsText[1:], "1 N none N:... ... ... ...", "1 N none N:A... K... Q... J...",
		"1 N none N:...AKQJT98765432 ..AKQJT98765432. .AKQJT98765432.. AKQJT9876543...", "1 N none N:... ..AKQJT98765432. .AKQJT98765432.. AKQJT98765432...",
		"1 N none N:...AKQJT98765432 ...AKQJT98765432 .AKQJT98765432.. AKQJT98765432...", "1 N none N:...AKQJT98765432 ..AKQJT98765432. .AKQJT98765432.. AKQJT9876543.2..",
		"1 N none N:...AKQJT98765432 ..AKQJT98765432. .AKQJT98765432..", "1 N none N:...AKQJT98765432 ..AKQJT98765432. .AKQJT98765432.. 23456789TJQKA...",
		strings.Repeat(" ", 1<<16), strings.Repeat("1 N none ", 1<<12), "1 N none " + strings.Repeat("N:", 1<<16), s + strings.Repeat(" ", 1<<16),
	} {
		refused(t, x)
	}
}

// P7.5: whatever is read has this string as its text.
func TestTextsWithOneChange(t *testing.T) {
	draw := rand.New(rand.NewSource(75))
	const bytes = "0123456789NESWnebothons:. AKQJT+-_\t\n\x00\xff"
	check := func(s string) {
		r, e := board.Read(s)
		if e == board.ErrText && r == (board.Record{}) {
			return
		}
		text, f := board.Text(r)
		if e != api.OK || f != api.OK || text != s {
			t.Fatalf("%q is read as %v, %d", s, r, e)
		}
	}
	for _, n := range []int{1, 7, 12, 16, 64, 99, 100, 113, 128} {
		text, _ := board.Text(board.Record{Number: n, Deal: dealt(draw)})
		for i := range len(text) {
			check(text[:i])
			check(text[i:])
			check(text[:i] + text[i+1:])
			for j := range len(bytes) {
				check(text[:i] + bytes[j:j+1] + text[i:])
				check(text[:i] + bytes[j:j+1] + text[i+1:])
			}
		}
	}
}
