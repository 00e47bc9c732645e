package auction_test

import (
	"slices"
	"strings"
	"testing"

	"finesse/api"
	"finesse/auction"
	"finesse/call"
)

// tableOf puts the table of a right auction together, cell by cell.
func tableOf(dealer uint8, l []uint8) []string {
	cells := strings.Repeat("-    ", int(dealer))
	for _, c := range l {
		s, _ := call.Text(c)
		cells += (s + "     ")[:5]
	}
	if !isOver(l) {
		cells += "?    "
	}
	for len(cells)%20 > 0 {
		cells += " "
	}
	var table []string
	for ; len(cells) > 0; cells = cells[20:] {
		table = append(table, cells[:20])
	}
	return table
}

// unread checks that strings are no table.
func unread(t *testing.T, table []string) {
	t.Helper()
	if dealer, l, e := auction.Read(table); dealer != 0 || len(l) != 0 || e != auction.ErrText {
		t.Errorf("Read(%q) is %d, %v, %d", table, dealer, l, e)
	}
}

// bothWays compares the table of a right auction, and what is read from it.
func bothWays(t *testing.T, dealer uint8, l []uint8) {
	t.Helper()
	want := tableOf(dealer, l)
	if table, e := auction.Table(dealer, l); !slices.Equal(table, want) || e != api.OK {
		t.Fatalf("Table(%d, %v) is %q, %d, not %q", dealer, l, table, e, want)
	}
	if d, back, e := auction.Read(want); d != dealer || !slices.Equal(back, l) || e != api.OK {
		t.Fatalf("Read(%q) is %d, %v, %d", want, d, back, e)
	}
}

// P9.4
func TestTable(t *testing.T) {
	for _, c := range []struct {
		dealer uint8
		calls  string
		want   []string
	}{
		{1, "P 1H X", []string{"-    P    1H   X    ", "?                   "}},
		{0, "", []string{"?                   "}},
		{1, "", []string{"-    ?              "}},
		{2, "", []string{"-    -    ?         "}},
		{3, "", []string{"-    -    -    ?    "}},
		{0, "P P P", []string{"P    P    P    ?    "}},
		{0, "P P P P", []string{"P    P    P    P    "}},
		{0, "1NT P P", []string{"1NT  P    P    ?    "}},
		{0, "1NT P P P", []string{"1NT  P    P    P    "}},
		{3, "P P P P", []string{"-    -    -    P    ", "P    P    P         "}},
		{1, "P 1H P 2H P P X P P XX P P P", []string{"-    P    1H   P    ", "2H   P    P    X    ", "P    P    XX   P    ", "P    P              "}},
	} {
		if table, e := auction.Table(c.dealer, calls(t, c.calls)); !slices.Equal(table, c.want) || e != api.OK {
			t.Errorf("Table(%d, %s) is %q, %d, not %q", c.dealer, c.calls, table, e, c.want)
		}
	}
	for _, c := range []struct {
		dealer uint8
		l      []uint8
	}{{4, nil}, {255, []uint8{0, 0, 0, 0}}, {0, []uint8{1}}, {0, []uint8{38}}, {0, []uint8{0, 0, 0, 0, 0}}, {0, []uint8{3, 0, 0, 0, 255}}, {3, []uint8{4, 3}}} {
		if table, e := auction.Table(c.dealer, c.l); len(table) != 0 || e != api.ErrArg {
			t.Errorf("Table(%d, %v) is %q, %d", c.dealer, c.l, table, e)
		}
	}
}

// P9.4, P9.5
func TestTablesBothWays(t *testing.T) {
	for dealer := range uint8(4) {
		short(2, func(l []uint8) {
			if _, e := wrong(dealer, l); e == api.OK {
				bothWays(t, dealer, l)
			}
		})
		few(7, func(l []uint8) {
			if _, e := wrong(dealer, l); e == api.OK {
				bothWays(t, dealer, l)
			}
		})
		for _, l := range append(walks(int64(dealer), 100), longest()) {
			for n := range len(l) + 1 {
				bothWays(t, dealer, l[:n])
			}
		}
	}
}

// P9.4
func TestReadNoTables(t *testing.T) {
	const asked, passes = "?                   ", "P    P    P    P    "
	for _, table := range [][]string{
		nil, {}, {""}, {"", asked}, {asked, ""}, {asked, asked}, {passes, asked}, {passes, ""}, {passes, passes}, {asked, passes},
		{"                    "}, {passes, "                    "}, {asked, "                    "},
		{"?"}, {"?    "}, {"?                  "}, {"?                    "},
		{"-    -    -    -    ", asked}, {"-    -    -    -    "}, {"-    -    -    "}, {"-    -    -    P    ", "-    ?              "},
		{"P    ?    P    P    "}, {"P    P    P         "}, {"P    P    P    P    ?    "}, {"P    P         P    "}, {"     P    P    ?    "},
		{"P    -    P    ?    "}, {"?    ?              "}, {"P    P    P    ?P   "}, {"p    ?              "}, {"Pass ?              "}, {" P   ?              "},
		{"1C   X    X    ?    "}, {"X    ?              "}, {"XX   ?              "}, {"1D   1C   ?         "}, {"8C   ?              "}, {"1N   ?              "}, {"1C\t  ?              "}, {"1C   ?    \x00         "},
		{"1C   P    P    P    ", "P    ?              "}, {"1C   P    P    P    ", asked}, {"1C P P P"}, {"1C   P    P    X"},
		{"-   -    ?          "}, {"-    --   ?         "},
	} {
		unread(t, table)
	}
	long := slices.Repeat([]string{passes}, 100000)
	unread(t, long)
	unread(t, slices.Repeat([]string{"-    -    -    -    "}, 64))
	unread(t, append(slices.Repeat([]string{"-    -    -    -    "}, 64), "P    P    P    P    "))
}

// P9.4: of all tables next to one, only those that are tables themselves are read.
func TestReadChanged(t *testing.T) {
	for _, c := range []struct {
		dealer uint8
		calls  string
	}{{1, "P 1H X"}, {0, "P P P P"}, {3, ""}, {2, "1NT P 3NT P P P"}, {0, "1C X XX P P 7NT"}} {
		table := tableOf(c.dealer, calls(t, c.calls))
		for line := range table {
			for at := range table[line] {
				for b := range 256 {
					changed := slices.Clone(table)
					changed[line] = table[line][:at] + string([]byte{byte(b)}) + table[line][at+1:]
					unreadOrSame(t, changed)
				}
				without, twice := slices.Clone(table), slices.Clone(table)
				without[line] = table[line][:at] + table[line][at+1:]
				twice[line] = table[line][:at] + " " + table[line][at:]
				unread(t, without)
				unread(t, twice)
			}
			unreadOrSame(t, slices.Delete(slices.Clone(table), line, line+1))
			unreadOrSame(t, slices.Insert(slices.Clone(table), line, table[line]))
		}
	}
}

// unreadOrSame checks that a table that is read is the one of what was read, cell by cell, and that no other one is.
func unreadOrSame(t *testing.T, table []string) {
	t.Helper()
	dealer, l, e := auction.Read(table)
	if e == api.OK {
		if _, bad := wrong(dealer, l); bad != api.OK || !slices.Equal(tableOf(dealer, l), table) {
			t.Errorf("Read(%q) is %d, %v", table, dealer, l)
		}
		return
	}
	unread(t, table)
}
