package combine

import (
	"math/rand"
	"sort"
	"strconv"
	"strings"
	"testing"

	"watershed/api"
)

// wantFault: does Parse find the fault at just this place?
func wantFault(t *testing.T, s string, place int) {
	t.Helper()
	c, at, e := Parse(s)
	if at != place || e != api.ErrSyntax || !sameComb(c, Comb{}) || c.Parts != nil {
		t.Errorf("Parse(%q): %v, %d, %d; want ErrSyntax, %d", s, c, at, e, place)
	}
}

// wantRead: are the text and the combiner told of one another?
func wantRead(t *testing.T, c Comb) {
	t.Helper()
	want := plainText(c)
	if s, e := Show(c); s != want || e != api.OK {
		t.Errorf("Show: %q, %d; want %q", s, e, want)
	}
	if back, at, e := Parse(want); !sameComb(back, c) || at != 0 || e != api.OK {
		t.Errorf("Parse(%q): %v, %d, %d", want, back, at, e)
	}
}

// texts are the texts of all right combiners, rising.
func texts() []string {
	var below, all []string
	for _, c := range singles() {
		all = append(all, plainText(c))
	}
	for _, c := range shallow() {
		below = append(below, plainText(c))
	}
	for _, a := range below {
		for _, b := range below {
			all = append(all, "both("+a+","+b+")")
		}
	}
	sort.Strings(all)
	return all
}

// placeOf tells the place of the fault in s, seen by all texts that there are, rising; false, if s is a text.
func placeOf(all []string, s string) (int, bool) {
	for n := range len(s) {
		if i := sort.SearchStrings(all, s[:n+1]); i == len(all) || !strings.HasPrefix(all[i], s[:n+1]) {
			return n, true
		}
	}
	i := sort.SearchStrings(all, s)
	return len(s), i == len(all) || all[i] != s
}

// P8.1: the words of the chapter, and its examples.
func TestWords(t *testing.T) {
	for s, want := range map[string]Comb{
		"count": {Name: "count"}, "sum": {Name: "sum"}, "mean": {Name: "mean"}, "spin": {Name: "spin"}, "min": {Name: "min"}, "max": {Name: "max"}, "all": {Name: "all"}, "set": {Name: "set"},
		"top(1)": {Name: "top", K: 1}, "top(2)": {Name: "top", K: 2}, "top(9)": {Name: "top", K: 9}, "top(10)": {Name: "top", K: 10}, "top(16)": {Name: "top", K: 16}, "both(sum,count)": {Name: "both", Parts: []Comb{{Name: "sum"}, {Name: "count"}}},
		"both(top(3),both(set,top(12)))": {Name: "both", Parts: []Comb{{Name: "top", K: 3}, {Name: "both", Parts: []Comb{{Name: "set"}, {Name: "top", K: 12}}}}},
	} {
		if s != plainText(want) {
			t.Errorf("the test's own text of %v: %q", want, plainText(want))
		}
		wantRead(t, want)
	}
	if s, e := Show(Comb{Name: "sum", Parts: []Comb{}}); s != "sum" || e != api.OK {
		t.Errorf("Show, empty Parts: %q, %d", s, e)
	}
}

// P8.1: a text of each right combiner is told and read back; of those that are three deep one in nineteen, and each first and second Part.
func TestShowParse(t *testing.T) {
	below := shallow()
	for i, a := range below {
		wantRead(t, a)
		wantRead(t, joint(a, below[len(below)-1-i]))
		for j := i % 19; j < len(below); j += 19 {
			wantRead(t, joint(a, below[j]))
		}
	}
}

// P8.1: no other text is told: what isn't right has none.
func TestShowWrong(t *testing.T) {
	for i, c := range wrongCombs() {
		if s, e := Show(c); s != "" || e != api.ErrCombine {
			t.Errorf("Show of wrong combiner %d: %q, %d", i, s, e)
		}
	}
}

// P8.1: the places of some faults.
func TestFaults(t *testing.T) {
	for _, c := range []struct {
		s     string
		place int
	}{
		{"top(17)", 5}, {"min(", 3}, {"", 0}, {" ", 0}, {" sum", 0}, {"sum ", 3}, {"Sum", 0}, {"x", 0}, {"c", 1}, {"s", 1}, {"m", 1}, {"t", 1}, {"b", 1}, {"sp", 2}, {"se", 2}, {"su", 2}, {"st", 1}, {"mx", 1}, {"mi", 2}, {"ma", 2}, {"me", 2}, {"man", 2}, {"mim", 2}, {"sut", 2}, {"sun", 2}, {"alt", 2}, {"al", 2}, {"coumt", 3}, {"coun", 4}, {"counts", 5},
		{"sums", 3}, {"sum(", 3}, {"sum)", 3}, {"sum,", 3}, {"sumsum", 3}, {"top", 3}, {"top)", 3}, {"top,", 3}, {"top(", 4}, {"top()", 4}, {"top( 1)", 4}, {"top(1", 5}, {"top(1 )", 5}, {"top(1,", 5}, {"top(1))", 6}, {"top(+1)", 4}, {"top(-1)", 4}, {"top(a)", 4}, {"top(0)", 4}, {"top(00)", 4}, {"top(01)", 4}, {"top(016)", 4}, {"top(18)", 5}, {"top(19)", 5}, {"top(20)", 5}, {"top(22)", 5}, {"top(90)", 5}, {"top(100)", 6}, {"top(160)", 6}, {"top(16", 6}, {"top(16)0", 7}, {"top[1]", 3},
		{"both", 4}, {"both(", 5}, {"both()", 5}, {"both(,", 5}, {"both( sum,sum)", 5}, {"both(sum", 8}, {"both(sum)", 8}, {"both(sum ,sum)", 8}, {"both(sum,", 9}, {"both(sum,)", 9}, {"both(sum, sum)", 9}, {"both(sum,sum", 12}, {"both(sum,sum,sum)", 12}, {"both(sum,sum )", 12}, {"both(sum,sum))", 13}, {"both(sum;sum)", 8}, {"both,", 4}, {"both(top(17),sum)", 10}, {"both(sum,top(0))", 13}, {"both(sums,sum)", 8}, {"both(x,sum)", 5}, {"both(sum,x)", 9},
		{"both(both(both(", 10}, {"both(both(b", 10}, {"both(both(sum,b", 14}, {"both(both(sum,both(", 14}, {"both(sum,both(sum,both(", 18}, {"both(sum,both(both(", 14}, {"both(both(sum,sum),both(sum,b", 28}, {"both(both(sum,sum),both(b", 24}, {"\xff", 0}, {"sum\xff", 3}, {"spın", 2}, {"\x00", 0}, {"sum\x00", 3},
	} {
		wantFault(t, c.s, c.place)
	}
}

// P8.1: top takes the numbers from 1 to 16 alone, without a nought ahead.
func TestTopNumbers(t *testing.T) {
	for k := -20; k < 1200; k++ {
		s := "top(" + strconv.Itoa(k) + ")"
		c, _, e := Parse(s)
		if right := k >= 1 && k <= 16; right != (e == api.OK) || right && !sameComb(c, top(k)) {
			t.Errorf("Parse(%q): %v, %d", s, c, e)
		}
		if k >= 0 {
			wantFault(t, "top(0"+strconv.Itoa(k)+")", 4)
		}
	}
}

// samples are texts of right combiners, of each depth and of each kind.
func samples(r *rand.Rand, many int) []string {
	all := []string{"top(1)", "top(16)", "both(sum,count)", "both(both(all,set),both(top(10),mean))", "both(spin,both(top(1),max))"}
	for range many {
		all = append(all, plainText(anyComb(r, 1)), plainText(anyComb(r, 2)), plainText(anyComb(r, 3)))
	}
	return all
}

// P8.1: each text cut short at each byte is faulty at its end; a byte more than there should be is faulty at its place, or where it first shows.
func TestCutShort(t *testing.T) {
	for _, s := range samples(rand.New(rand.NewSource(1)), 100) {
		for n := range len(s) {
			wantFault(t, s[:n], n)
			for _, wrong := range []string{"\x00", " ", "X", "\xff", "é"} {
				wantFault(t, s[:n]+wrong, n)
				wantFault(t, s[:n]+wrong+s[n:], n)
				wantFault(t, s[:n]+wrong+s[n+1:], n)
			}
		}
		for b := range 256 {
			wantFault(t, s+string([]byte{byte(b)}), len(s))
		}
		wantFault(t, s+s, len(s))
	}
}

// P8.1: a wrong byte at each place, in another one's place and ahead of it, held against all texts that there are.
func TestWrongBytes(t *testing.T) {
	all := texts()
	try := func(s string) {
		place, faulty := placeOf(all, s)
		if faulty {
			wantFault(t, s, place)
		} else if c, at, e := Parse(s); e != api.OK || at != 0 || plainText(c) != s {
			t.Errorf("Parse(%q): %v, %d, %d", s, c, at, e)
		}
	}
	for _, s := range samples(rand.New(rand.NewSource(2)), 30) {
		for n := range len(s) {
			for _, b := range []byte("abcehilmnopstuxABT0123456789(),. \x00\x7f\xff") {
				try(s[:n] + string([]byte{b}) + s[n:])
				try(s[:n] + string([]byte{b}) + s[n+1:])
				try(s[:n] + string([]byte{b}))
			}
			try(s[:n] + s[n+1:])
			try(s[:n] + s)
		}
	}
	for b := range 256 {
		for _, s := range []string{"", "t", "top(", "top(1", "top(2", "both(", "both(sum,", "both(both(", "both(both(sum,", "both(both(sum,sum),", "both(sum,both(sum,", "s", "m", "ma"} {
			try(s + string([]byte{byte(b)}))
			try(s + string([]byte{byte(b)}) + ")")
		}
	}
}

// P1: long texts are read no farther than to their fault.
func TestLong(t *testing.T) {
	wantFault(t, strings.Repeat("both(", 1<<20), 10)
	wantFault(t, strings.Repeat("sum", 1<<20), 3)
	wantFault(t, "top(1"+strings.Repeat("0", 1<<20), 6)
	wantFault(t, "both(sum,sum)"+strings.Repeat(")", 1<<20), 13)
}
