package expr

import (
	"fmt"
	"regexp"
	"slices"
	"strconv"
	"strings"
	"testing"

	"watershed/api"
	"watershed/kind"
)

// The words, as the chapter lists them.
var (
	bare      = strings.Fields("true false it")
	ones      = strings.Fields("neg not first second len sort some is_some size bytes text show re im conj range")
	twos      = strings.Fields("add sub mul div mod eq lt and or pair cons concat at or_else join point")
	threes    = strings.Fields("if cut")
	withTypes = strings.Fields("nil none")
	others    = strings.Fields("side list let map filter fold")
	words     = slices.Concat(bare, ones, twos, threes, withTypes, others)
)

// rule is a part of the grammar: it tells where that may end, if it begins at a place of s, and whether
// the rest of s may be one that is cut short.
type rule func(s string, at int) (ends []int, short bool)

// lit is just this text.
func lit(text string) rule {
	return func(s string, at int) ([]int, bool) {
		if strings.HasPrefix(s[at:], text) {
			return []int{at + len(text)}, false
		}
		return nil, strings.HasPrefix(text, s[at:])
	}
}

// seq is one behind the other.
func seq(rules ...rule) rule {
	return func(s string, at int) ([]int, bool) {
		places, short := []int{at}, false
		for _, r := range rules {
			var next []int
			for _, p := range places {
				ends, cut := r(s, p)
				next, short = append(next, ends...), short || cut
			}
			if len(next) > 1 {
				slices.Sort(next)
				next = slices.Compact(next)
			}
			if places = next; len(places) == 0 {
				break
			}
		}
		return places, short
	}
}

// alt is any of them.
func alt(rules ...rule) rule {
	return func(s string, at int) (ends []int, short bool) {
		for _, r := range rules {
			more, cut := r(s, at)
			ends, short = append(ends, more...), short || cut
		}
		return ends, short
	}
}

// blanks are all that stand here: no part of the grammar begins with one.
func blanks(s string, at int) ([]int, bool) {
	for at < len(s) && s[at] == ' ' {
		at++
	}
	return []int{at}, false
}

// whole is what begins with one of some bytes and is right as a whole; within the rest of s it may end
// anywhere. It is cut short, if one of some tails makes it right.
func whole(begin string, right func(string) bool, most int, tails ...string) rule {
	return func(s string, at int) (ends []int, short bool) {
		if at < len(s) && strings.IndexByte(begin, s[at]) < 0 {
			return nil, false
		}
		for end := at + 1; end <= len(s) && end <= at+most; end++ {
			if right(s[at:end]) {
				ends = append(ends, end)
			}
		}
		for _, tail := range tails {
			short = short || right(s[at:]+tail)
		}
		return ends, short
	}
}

var (
	numberText = regexp.MustCompile(`^(0|-?[1-9][0-9]*)$`)
	nameText   = regexp.MustCompile(`^[a-z][a-z0-9_]{0,15}$`)
	stringText = regexp.MustCompile(`^"([ !#-\[\]-~]|\\([0189a-f][0-9a-f]|22|5c|7f)){0,256}"$`)
)

func isNumberText(s string) bool {
	_, err := strconv.ParseInt(s, 10, 64)
	return err == nil && numberText.MatchString(s)
}

func isNameText(s string) bool { return nameText.MatchString(s) && !slices.Contains(words, s) }

func isTypeText(s string) bool {
	_, _, e := kind.Parse(s)
	return e == api.OK
}

var (
	number = whole("-0123456789", isNumberText, 30, "1")
	name   = whole("abcdefghijklmnopqrstuvwxyz", isNameText, 30, "", "x", "xx")
	quoted = whole(`"`, stringText.MatchString, 800, `"`, `""`, `0"`, `2"`, `c"`, `f"`, `00"`)
	digit  = alt(lit("0"), lit("1"), lit("2"), lit("3"), lit("4"), lit("5"), lit("6"), lit("7"), lit("8"), lit("9"))
)

// typ is layer 2's text.
func typ(s string, at int) (ends []int, short bool) {
	_, place, e := kind.Parse(s[at:])
	if e == api.OK {
		return []int{len(s)}, false
	}
	if isTypeText(s[at : at+place]) {
		return []int{at + place}, false
	}
	return nil, place == len(s)-at
}

// call is a word with these parts behind it.
func call(word string, parts ...rule) rule {
	all := []rule{lit(word), blanks, lit("(")}
	for i, p := range parts {
		if i > 0 {
			all = append(all, lit(","))
		}
		all = append(all, blanks, p, blanks)
	}
	return seq(append(all, lit(")"))...)
}

// times is up to so many, with commas between them.
func times(most int, r rule) rule {
	return func(s string, at int) (ends []int, short bool) {
		places := []int{at}
		ahead := r
		for range most {
			var cut bool
			var next []int
			for _, p := range places {
				more, c := ahead(s, p)
				next, cut = append(next, more...), cut || c
			}
			ends, short, places = append(ends, next...), short || cut, next
			ahead = seq(blanks, lit(","), blanks, r)
		}
		return ends, short
	}
}

// terms are the grammar's expr, by how deep their terms are at most.
var terms = termsWithin(24)

func termsWithin(depth int) []rule {
	rules := []rule{number, quoted, name, call("side", digit), call("nil", typ), call("none", typ)}
	for _, w := range bare {
		rules = append(rules, lit(w))
	}
	all := []rule{nil, alt(rules...)}
	for len(all) <= depth {
		all = append(all, alt(alt(rules...), alt(deeper(all[len(all)-1])...)))
	}
	return all
}

// deeper are the words that have expressions.
func deeper(e rule) []rule {
	rules := []rule{call("list", times(64, e)), call("let", name, e, e), call("map", e, name, e), call("filter", e, name, e), call("fold", e, e, name, name, e)}
	for _, w := range ones {
		rules = append(rules, call(w, e))
	}
	for _, w := range twos {
		rules = append(rules, call(w, e, e))
	}
	for _, w := range threes {
		rules = append(rules, call(w, e, e, e))
	}
	return rules
}

// look tells whether s is a text, and whether it is the beginning of one, by the grammar. The texts may
// be ones within so many brackets, of which the last are still to come.
func look(s string, room, brackets int) (text, beginning bool) {
	rules := []rule{blanks, terms[room], blanks}
	for range brackets {
		rules = append(rules, lit(")"), blanks)
	}
	ends, short := seq(rules...)(s, 0)
	text = slices.Contains(ends, len(s))
	return text, text || short
}

// wantPlain holds Parse against the grammar at a text that stands within so many brackets of neg.
func wantPlain(t *testing.T, s string, brackets int) {
	t.Helper()
	open := strings.Repeat("neg(", brackets)
	n, at, e := Parse(open + s)
	if text, _ := look(s, 24-brackets, brackets); text {
		if at != 0 || e != api.OK || Check(n) != api.OK {
			t.Errorf("Parse(%q): %v, %d, %d; want OK", open+s, n, at, e)
		}
		return
	}
	place := at - len(open)
	if e != api.ErrSyntax || !same(n, Node{}) || place < 0 || place > len(s) {
		t.Errorf("Parse(%q): %v, %d, %d; want ErrSyntax", open+s, n, at, e)
		return
	}
	// What has a beginning ahead of it that goes on nowhere isn't one either: these two places say it all.
	if _, beginning := look(s[:place], 24-brackets, brackets); !beginning {
		t.Errorf("Parse(%q): %d; the fault is ahead of it", open+s, at)
	}
	if _, beginning := look(s[:min(place+1, len(s))], 24-brackets, brackets); place < len(s) && beginning {
		t.Errorf("Parse(%q): %d; the fault is behind it", open+s, at)
	}
}

// plainText tells a right term's text, as the chapter says it, with gap at every place where blanks may stand.
func plainText(n Node, gap func() string) string {
	switch n.Op {
	case "int":
		return fmt.Sprint(n.Int)
	case "text_of":
		s := ""
		for _, b := range []byte(n.Text) {
			if b < 32 || b > 126 || b == '"' || b == '\\' {
				s += fmt.Sprintf(`\%02x`, b)
			} else {
				s += string(rune(b))
			}
		}
		return `"` + s + `"`
	case "name":
		return n.Text
	case "true", "false", "it":
		return n.Op
	case "side":
		return n.Op + gap() + "(" + gap() + fmt.Sprint(n.Int) + gap() + ")"
	case "nil", "none":
		s, _ := kind.Show(n.Type)
		return n.Op + gap() + "(" + gap() + s + gap() + ")"
	}
	s, mark := n.Op+gap(), "("
	for _, k := range n.Kids {
		s += mark + gap() + plainText(k, gap) + gap()
		mark = ","
	}
	return s + ")"
}

// noGap is for texts without blanks.
func noGap() string { return "" }

// plainSize tells how many Nodes are in n.
func plainSize(n Node) int {
	size := 1
	for _, k := range n.Kids {
		size += plainSize(k)
	}
	return size
}
