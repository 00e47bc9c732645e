package call_test

import (
	"math/rand"
	"slices"
	"strings"
	"testing"

	"finesse/api"
	"finesse/call"
)

// joined is the string of right calls, put together apart from the package.
func joined(l []uint8) string {
	s := ""
	for i, c := range l {
		if i > 0 {
			s += " "
		}
		s += words[c]
	}
	return s
}

// samples are lists of calls of all kinds of lengths.
func samples() [][]uint8 {
	draw := rand.New(rand.NewSource(8))
	all := make([]uint8, 38)
	for c := range all {
		all[c] = uint8(c)
	}
	l := [][]uint8{{}, all, {0, 1, 2, 15}, {0, 0, 0, 0}, make([]uint8, 319)}
	for c := range uint8(38) {
		l = append(l, []uint8{c}, []uint8{c, c}, slices.Repeat([]uint8{c}, 319))
	}
	for _, n := range []int{1, 2, 3, 4, 5, 17, 100, 317, 318, 319} {
		for range 10 {
			calls := make([]uint8, n)
			for i := range calls {
				calls[i] = uint8(draw.Intn(38))
			}
			l = append(l, calls)
		}
	}
	return l
}

// P8.2
func TestText(t *testing.T) {
	for c := range 256 {
		want, wrong := "", call.ErrCall
		if c < 38 {
			want, wrong = words[c], api.OK
		}
		if s, e := call.Text(uint8(c)); s != want || e != wrong {
			t.Errorf("Text(%d) is %q, %d, not %q, %d", c, s, e, want, wrong)
		}
	}
	for c, want := range map[uint8]string{api.Pass: "P", api.Double: "X", api.Redouble: "XX", 3: "1C", 7: "1NT", 15: "3H", api.MaxCall: "7NT"} {
		if s, e := call.Text(c); s != want || e != api.OK {
			t.Errorf("Text(%d) is %q, %d, not %q", c, s, e, want)
		}
	}
}

// P8.2: of all strings of up to two bytes, and of all that have one byte between or beside them, just the strings of calls are read.
func TestRead(t *testing.T) {
	check := func(s string) {
		want, wrong := slices.Index(words, s), api.OK
		if want < 0 {
			want, wrong = 0, call.ErrText
		}
		if c, e := call.Read(s); int(c) != want || e != wrong {
			t.Errorf("Read(%q) is %d, %d, not %d, %d", s, c, e, want, wrong)
		}
	}
	check("")
	for a := range 256 {
		check(string([]byte{byte(a)}))
		for b := range 256 {
			check(string([]byte{byte(a), byte(b)}))
		}
	}
	for _, s := range words {
		for i := range len(s) + 1 {
			for b := range 256 {
				one := string([]byte{byte(b)})
				check(s[:i] + one + s[i:])
				check(s[:i] + one + s[min(i+1, len(s)):])
				check(s[:i] + s[min(i+1, len(s)):])
			}
		}
		check(strings.ToLower(s))
		check(s + s)
	}
}

// P8.2
func TestReadOfOtherStrings(t *testing.T) {
	for _, s := range []string{"", "3h", "0C", "8C", "1N", "XXX", "p", "x", "xx", "1nt", "1NT ", " 1NT", "1 NT", "NT1", "C1", "C", "NT", "1", "10C", "01C", "+1C", "1T", "1♣", "Pass", "Dbl", "P P", "P\n", "P\x00", strings.Repeat("X", 1000)} {
		if c, e := call.Read(s); c != 0 || e != call.ErrText {
			t.Errorf("Read(%q) is %d, %d", s, c, e)
		}
	}
}

// P8.3
func TestTextAll(t *testing.T) {
	for _, l := range samples() {
		before := slices.Clone(l)
		if s, e := call.TextAll(l); s != joined(l) || e != api.OK {
			t.Errorf("TextAll(%v) is %q, %d, not %q", l, s, e, joined(l))
		}
		if !slices.Equal(l, before) {
			t.Errorf("TextAll made %v of its argument %v", l, before)
		}
	}
	if s, e := call.TextAll([]uint8{0, 1, 2, 15}); s != "P X XX 3H" || e != api.OK {
		t.Errorf("TextAll of 0 1 2 15 is %q, %d", s, e)
	}
	for _, l := range [][]uint8{nil, {}} {
		if s, e := call.TextAll(l); s != "" || e != api.OK {
			t.Errorf("TextAll of no calls is %q, %d", s, e)
		}
	}
}

// P8.3: too many calls are reported before calls that are none.
func TestTextAllOfWrongLists(t *testing.T) {
	for _, c := range []struct {
		l    []uint8
		want api.Errno
	}{
		{[]uint8{38}, call.ErrCall}, {[]uint8{255}, call.ErrCall}, {[]uint8{0, 38}, call.ErrCall}, {[]uint8{38, 0}, call.ErrCall}, {[]uint8{3, 200, 4}, call.ErrCall},
		{append(make([]uint8, 318), 38), call.ErrCall}, {slices.Repeat([]uint8{38}, 319), call.ErrCall},
		{make([]uint8, 320), api.ErrMany}, {append(make([]uint8, 319), 38), api.ErrMany}, {slices.Repeat([]uint8{38}, 320), api.ErrMany}, {make([]uint8, 100000), api.ErrMany},
	} {
		before := slices.Clone(c.l)
		if s, e := call.TextAll(c.l); s != "" || e != c.want {
			t.Errorf("TextAll of %d calls is %q, %d, not %d", len(c.l), s, e, c.want)
		}
		if !slices.Equal(c.l, before) {
			t.Errorf("TextAll made %v of its argument %v", c.l, before)
		}
	}
	for c := 38; c < 256; c++ {
		if s, e := call.TextAll([]uint8{0, uint8(c), 3}); s != "" || e != call.ErrCall {
			t.Errorf("TextAll of 0, %d, 3 is %q, %d", c, s, e)
		}
	}
}

// P8.3
func TestReadAll(t *testing.T) {
	for _, l := range samples() {
		if got, e := call.ReadAll(joined(l)); !slices.Equal(got, l) || e != api.OK {
			t.Errorf("ReadAll(%q) is %v, %d, not %v", joined(l), got, e, l)
		}
	}
	if l, e := call.ReadAll("P X XX 3H"); !slices.Equal(l, []uint8{0, 1, 2, 15}) || e != api.OK {
		t.Errorf("ReadAll(P X XX 3H) is %v, %d", l, e)
	}
	if l, e := call.ReadAll(""); len(l) != 0 || e != api.OK {
		t.Errorf("ReadAll of the empty string is %v, %d", l, e)
	}
}

// P8.3
func TestReadAllOfOtherStrings(t *testing.T) {
	long := strings.Repeat("P ", 319)
	for _, s := range []string{
		" ", "  ", "P  P", " P", "P ", "P P ", " P P", "P,P", "P\tP", "P\nP", "P-P", "PP", "P Q", "Q P", "P 3h", "3h", "0C", "P 8C P", "1N", "XXX", "X XXX", "XXXX", "1C1D", "1C 1D\n", "\x00", "P\x00P", "P\u00a0P",
		long, long + "P", long + "P P", long + "Q", " " + long, strings.Repeat(" ", 318), strings.Repeat(" ", 319), strings.Repeat(" ", 100000), strings.Repeat("P ", 100000) + "P", strings.Repeat("7NT ", 319) + "7NT", strings.Repeat("P ", 318) + "Q",
	} {
		if l, e := call.ReadAll(s); len(l) != 0 || e != call.ErrText {
			t.Errorf("ReadAll(%q) is %v, %d", s, l, e)
		}
	}
}

// P8.3: 319 calls are read, and one more is too many.
func TestMostCalls(t *testing.T) {
	for _, s := range words {
		most := strings.Repeat(s+" ", 318) + s
		if l, e := call.ReadAll(most); len(l) != 319 || e != api.OK {
			t.Errorf("ReadAll of 319 calls %s has %d, %d", s, len(l), e)
		}
		if l, e := call.ReadAll(most + " " + s); len(l) != 0 || e != call.ErrText {
			t.Errorf("ReadAll of 320 calls %s has %d, %d", s, len(l), e)
		}
	}
}

// P8.3: lists share no memory with each other.
func TestReadAllIsNew(t *testing.T) {
	one, _ := call.ReadAll("1C X XX")
	other, _ := call.ReadAll("1C X XX")
	clear(one)
	if !slices.Equal(other, []uint8{3, 1, 2}) {
		t.Errorf("a list became %v when another one was changed", other)
	}
	if third, _ := call.ReadAll("1C X XX"); !slices.Equal(third, []uint8{3, 1, 2}) {
		t.Errorf("a later list is %v", third)
	}
}

// P8.5
func TestCallsAreReadBack(t *testing.T) {
	seen := map[string]bool{}
	for c := range uint8(38) {
		s, _ := call.Text(c)
		if seen[s] {
			t.Errorf("%d has the string %q, as another call", c, s)
		}
		seen[s] = true
		if back, e := call.Read(s); back != c || e != api.OK {
			t.Errorf("Read(Text(%d)) is %d, %d", c, back, e)
		}
	}
	for _, l := range samples() {
		s, _ := call.TextAll(l)
		if back, e := call.ReadAll(s); !slices.Equal(back, l) || e != api.OK {
			t.Errorf("ReadAll(TextAll(%v)) is %v, %d", l, back, e)
		}
	}
}

// P8.5: of all strings that are next to one of calls just those are read that are such strings themselves.
func TestReadAllOfNearStrings(t *testing.T) {
	check := func(s string) {
		l, e := call.ReadAll(s)
		if e != api.OK {
			if len(l) != 0 || e != call.ErrText {
				t.Fatalf("ReadAll(%q) is %v, %d", s, l, e)
			}
			for _, word := range strings.Split(s, " ") {
				if s == "" || !slices.Contains(words, word) {
					return
				}
			}
			t.Fatalf("ReadAll(%q) is not read", s)
		}
		if joined(l) != s {
			t.Fatalf("ReadAll(%q) is %v", s, l)
		}
	}
	for _, s := range []string{"", "P", "XX", "P P P P", "1NT X XX P", "P X XX 3H", joined(samples()[1])} {
		for i := range len(s) + 1 {
			for b := range 256 {
				one := string([]byte{byte(b)})
				check(s[:i] + one + s[i:])
				check(s[:i] + one + s[min(i+1, len(s)):])
				check(s[:i] + s[min(i+1, len(s)):])
			}
		}
	}
}
