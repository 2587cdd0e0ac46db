package kind

import (
	"strings"
	"testing"

	"watershed/api"
)

// wantFault: does Parse find the fault at just this place?
func wantFault(t *testing.T, s string, place int) {
	t.Helper()
	got, at, e := Parse(s)
	if at != place || e != api.ErrSyntax || got.Kind != 0 || got.Args != nil {
		t.Errorf("Parse(%q): %v, %d, %d; want ErrSyntax, %d", s, got, at, e, place)
	}
}

// P2.1, P2.2: texts of right types, told and read.
func TestShowParse(t *testing.T) {
	for _, r := range rights() {
		s, e := Show(r)
		if s != plainText(r) || e != api.OK {
			t.Errorf("Show: %q, %d; want %q", s, e, plainText(r))
		}
		back, at, e := Parse(s)
		wantType(t, "Parse("+s+")", back, e, r)
		if at != 0 {
			t.Errorf("Parse(%q): at %d", s, at)
		}
	}
}

// P2.1, P2.2: every word, as the chapter writes it.
func TestWords(t *testing.T) {
	for _, c := range []struct {
		s string
		t Type
	}{
		{"bool", boolean}, {"int", integer}, {"text", text}, {"bytes", octets}, {"point", point}, {"pair(int,text)", pair(integer, text)}, {"list(bool)", list(boolean)},
		{"option(bytes)", option(octets)}, {"list(pair(int,text))", list(pair(integer, text))}, {"pair(pair(point,int),option(list(text)))", pair(pair(point, integer), option(list(text)))},
	} {
		if s, e := Show(c.t); s != c.s || e != api.OK {
			t.Errorf("Show: %q, %d; want %q", s, e, c.s)
		}
		got, at, e := Parse(c.s)
		wantType(t, "Parse("+c.s+")", got, e, c.t)
		if at != 0 {
			t.Errorf("Parse(%q): at %d", c.s, at)
		}
	}
}

// P2.2: every text cut short at each byte is faulty at its end, and faulty there too if it goes on.
func TestCutShort(t *testing.T) {
	for _, r := range rights() {
		s := plainText(r)
		for n := range len(s) {
			wantFault(t, s[:n], n)
			wantFault(t, s[:n]+"\x00", n)
			wantFault(t, s[:n]+" "+s[n:], n)
			wantFault(t, s[:n]+"X"+s, n)
		}
		for _, more := range []string{" ", ")", ",", "(", "\x00", "\xff", "\n", "s", s, ",int)", "(int)"} {
			wantFault(t, s+more, len(s))
		}
	}
}

// P2.2: the places of some faults.
func TestFaults(t *testing.T) {
	for _, c := range []struct {
		s     string
		place int
	}{
		{"", 0}, {"x", 0}, {" int", 0}, {"(int)", 0}, {"none", 0}, {"some(int)", 0}, {"Int", 0}, {"int ", 3}, {"ints", 3}, {"int()", 3}, {"int(int)", 3}, {"bytebool", 4}, {"bool(", 4},
		{"boot", 3}, {"byte", 4}, {"bool,", 4}, {"inf", 2}, {"texs", 3}, {"poin", 4}, {"pont", 2}, {"paint", 3}, {"pint", 1}, {"list", 4}, {"lists", 4}, {"list()", 5}, {"list( int)", 5},
		{"list(int", 8}, {"list(int )", 8}, {"list(int,int)", 8}, {"list(int))", 9}, {"list(imt)", 6}, {"option", 6}, {"option(int,", 10}, {"options(int)", 6}, {"pair", 4}, {"pair,", 4}, {"pair()", 5},
		{"pair(,int)", 5}, {"pair(int", 8}, {"pair(int)", 8}, {"pair(int,", 9}, {"pair(int,)", 9}, {"pair(int, int)", 9}, {"pair(int,int", 12}, {"pair(int,int,int)", 12}, {"pair(int,int))", 13}, {"pair(int;int)", 8},
		{"list(pair(int,text)", 19}, {"\xff", 0}, {"in\xff", 2}, {"ınt", 0},
	} {
		wantFault(t, c.s, c.place)
	}
}

// P2.2: at the greatest depth words with Args are faulty from where no word without goes on.
func TestFaultAtGreatestDepth(t *testing.T) {
	for _, open := range []string{"list(", "option(", "pair(", "pair(int,"} {
		deep := strings.Repeat(open, api.MaxKind-1)
		n := len(deep)
		wantFault(t, strings.Repeat(open, api.MaxKind), n+strings.IndexAny(open[:2], "loa"))
		wantFault(t, deep, n)
		wantFault(t, deep+"list(int)", n)
		wantFault(t, deep+"l", n)
		wantFault(t, deep+"option(int)", n)
		wantFault(t, deep+"pair(int,int)", n+1)
		wantFault(t, deep+"pa", n+1)
		wantFault(t, deep+"p", n+1)
		wantFault(t, deep+"poi", n+3)
		wantFault(t, deep+"point", n+5)
		wantFault(t, deep+"bool(", n+4)
	}
	nest := strings.Repeat("list(", api.MaxKind-1)
	got, _, e := Parse(nest + "int" + strings.Repeat(")", api.MaxKind-1))
	wantType(t, "Parse", got, e, list(list(list(list(list(integer))))))
	wantFault(t, "pair(int,"+nest+"int", len("pair(int,")+len(nest)-len("list("))
}

// beginnings tells all beginnings of the texts of right types that are at most so
// deep; true says that one is a text itself.
func beginnings(depth int) map[string]bool {
	all := map[string]bool{}
	for _, ty := range within(depth) {
		s := plainText(ty)
		for n := range len(s) {
			all[s[:n]] = all[s[:n]]
		}
		all[s] = true
	}
	return all
}

// tryAll holds Parse, in so many lists, against all beginnings, each with every one of some bytes behind it.
func tryAll(t *testing.T, lists int, bytes string) {
	all := beginnings(api.MaxKind - lists)
	open, shut := strings.Repeat("list(", lists), strings.Repeat(")", lists)
	for s, whole := range all {
		if _, _, e := Parse(open + s + shut); (e == api.OK) != whole {
			t.Errorf("Parse(%q): %d", open+s+shut, e)
		}
		for i := range len(bytes) {
			more := s + bytes[i:i+1]
			if _, begins := all[more]; !begins && !(whole && lists > 0 && bytes[i] == ')') {
				wantFault(t, open+more, len(open)+len(s))
				wantFault(t, open+more+"int)", len(open)+len(s))
			} else if begins && !all[more] {
				wantFault(t, open+more, len(open)+len(more))
			}
		}
	}
}

// P2.2: all faults of all texts, as far down as they can be counted.
func TestAllFaults(t *testing.T) {
	every := make([]byte, 256)
	for i := range every {
		every[i] = byte(i)
	}
	tryAll(t, api.MaxKind-1, string(every))
	tryAll(t, api.MaxKind-2, string(every))
	tryAll(t, api.MaxKind-3, "abceilnopstxy(), ")
}

// P1: long texts are read no farther than to their fault.
func TestLong(t *testing.T) {
	wantFault(t, strings.Repeat("list(", 1<<20), 25)
	wantFault(t, strings.Repeat("int", 1<<20), 3)
	wantFault(t, plainText(full(api.MaxKind))+strings.Repeat(")", 1<<20), len(plainText(full(api.MaxKind))))
}
