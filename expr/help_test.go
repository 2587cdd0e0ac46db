package expr

import (
	"math/rand"
	"slices"
	"strings"
	"testing"

	"watershed/api"
	"watershed/kind"
)

func num(n int) Node                    { return Node{Op: "int", Int: n} }
func str(s string) Node                 { return Node{Op: "text_of", Text: s} }
func called(s string) Node              { return Node{Op: "name", Text: s} }
func op(word string, kids ...Node) Node { return Node{Op: word, Kids: kids} }
func side(n int) Node                   { return Node{Op: "side", Int: n} }
func typed(word, s string) Node         { return Node{Op: word, Type: typeOf(s)} }

// typeOf tells the type of a text.
func typeOf(s string) kind.Type {
	t, _, e := kind.Parse(s)
	if e != api.OK {
		panic(s)
	}
	return t
}

// nested stands n in so many negs.
func nested(n Node, times int) Node {
	for range times {
		n = op("neg", n)
	}
	return n
}

// many tells a list of so many times n.
func many(times int, n Node) Node {
	return op("list", slices.Repeat([]Node{n}, times)...)
}

// long tells a list of strings whose text has just so many bytes, from some hundreds on.
func long(length int) Node {
	l := op("list")
	left := length - len("list()")
	for left > 0 {
		n := min(left, 200)
		if left-n < 10 && left > n {
			n -= 20
		}
		l.Kids = append(l.Kids, str(strings.Repeat("x", n-3)))
		left -= n
	}
	// The first has no comma ahead.
	l.Kids[0].Text += "x"
	return l
}

// deepest is a type of the greatest depth.
const deepest = "list(option(list(pair(int,list(text)))))"

// leaves are right terms without Kids.
func leaves() []Node {
	every := ""
	for b := range 256 {
		every += string([]byte{byte(b)})
	}
	all := []Node{
		num(0), num(1), num(-1), num(10), num(-10), num(1<<63 - 1), num(-1 << 63), num(-1<<63 + 1), num(1000000000000000000),
		str(""), str("a"), str(" a  b "), str(`"\`), str(`\41`), str(every), str(strings.Repeat("x", api.MaxText)), str(strings.Repeat("\xff", api.MaxText)),
		op("true"), op("false"), op("it"), side(0), side(5), side(9), typed("nil", "int"), typed("none", "pair(int,list(text))"), typed("nil", deepest), typed("none", deepest),
	}
	for _, s := range names() {
		all = append(all, called(s))
	}
	return all
}

// names are right ones, those near to words among them.
func names() []string {
	all := []string{"a", "z", "a0", "a_", "z9_a", "int", "text_of", "name", "bool", "option", "abcdefghijklmnop", "a_______________", "a000000000000000"}
	for _, w := range words {
		all = append(all, w+"_", w+"x", w+"0", "x"+w)
		for n := 1; n < len(w); n++ {
			if !slices.Contains(words, w[:n]) {
				all = append(all, w[:n])
			}
		}
	}
	return all
}

// notNames are wrong ones.
func notNames() []string {
	return append([]string{
		"", "0", "0a", "_", "_a", "A", "aB", "a b", "a-", "a.", " a", "a ", "a\x00", "\x00", "é", "aé", "a`", "a{", "a/", "a:", "`", "{", "abcdefghijklmnopq", strings.Repeat("a", 5000),
	}, words...)
}

// twigs are right terms of each word, each Kid another one.
func twigs() []Node {
	x, y := called("x"), called("y")
	all := []Node{
		op("let", x, num(1), y), op("map", y, x, num(1)), op("filter", num(1), x, y), op("fold", num(1), num(2), y, x, num(3)), op("fold", x, y, x, x, y),
		op("list", num(1)), op("list", num(1), num(2)), op("list", num(1), num(2), num(3)), many(64, num(7)),
	}
	for _, w := range ones {
		all = append(all, op(w, num(1)))
	}
	for _, w := range twos {
		all = append(all, op(w, num(1), x))
	}
	for _, w := range threes {
		all = append(all, op(w, num(1), x, num(2)))
	}
	return all
}

// rights are right terms, the edges among them.
func rights() []Node {
	all := append(leaves(), twigs()...)
	for _, n := range twigs() {
		all = append(all, op("add", n, n), nested(n, 22), op("list", num(1), n, n))
	}
	all = append(all, nested(num(1), 23), nested(called("x"), 23), nested(side(1), 23), nested(typed("nil", deepest), 23), long(4096), long(4095), op("neg", long(4091)))
	r := rand.New(rand.NewSource(1))
	for range 200 {
		all = append(all, anyTerm(r, 5))
	}
	return all
}

// anyTerm tells a right term that is at most so deep, with few names.
func anyTerm(r *rand.Rand, depth int) Node {
	if depth == 1 || r.Intn(5) == 0 {
		if r.Intn(2) == 0 {
			return anyName(r)
		}
		all := []Node{num(0), num(-7), str(""), str("a \x00"), op("true"), op("it"), side(r.Intn(10)), typed("nil", "list(int)"), typed("none", "pair(int,text)"), num(r.Int() - r.Int())}
		return all[r.Intn(len(all))]
	}
	kid := func() Node { return anyTerm(r, depth-1) }
	switch r.Intn(8) {
	case 0:
		return op("let", anyName(r), kid(), kid())
	case 1:
		return op("map", kid(), anyName(r), kid())
	case 2:
		return op("filter", kid(), anyName(r), kid())
	case 3:
		return op("fold", kid(), kid(), anyName(r), anyName(r), kid())
	case 4:
		return op(ones[r.Intn(len(ones))], kid())
	case 5:
		return op(threes[r.Intn(len(threes))], kid(), kid(), kid())
	case 6:
		l := op("list", kid())
		for range r.Intn(4) {
			l.Kids = append(l.Kids, kid())
		}
		return l
	}
	return op(twos[r.Intn(len(twos))], kid(), kid())
}

func anyName(r *rand.Rand) Node {
	return called([]string{"x", "y", "z", "x1", "addx", "a_b"}[r.Intn(6)])
}

// wrongs are terms that aren't right, or too long.
func wrongs() []Node {
	x := called("x")
	all := []Node{
		{}, op(""), op("foo"), op("Add", num(1), num(2)), op("add ", num(1), num(2)), op("x"), op("(", num(1)), op("text_of("), op(strings.Repeat("a", 5000)),
		str(strings.Repeat("x", api.MaxText+1)), side(-1), side(10), side(1 << 40), side(-1 << 63),
		{Op: "nil"}, {Op: "none"}, {Op: "nil", Type: kind.Type{Kind: api.None}}, {Op: "none", Type: kind.Type{Kind: api.List}},
		{Op: "nil", Type: kind.Type{Kind: api.List, Args: []kind.Type{typeOf(deepest)}}}, {Op: "none", Type: kind.Type{Kind: api.Some, Args: []kind.Type{typeOf(deepest)}}},
		op("list"), many(65, num(1)), many(1000, num(1)),
		op("let", num(1), num(2), num(3)), op("let", op("it"), num(2), x), op("let", str("x"), num(2), x), op("map", x, num(1), x), op("map", x, op("x"), x), op("filter", x, op("neg", x), x),
		op("fold", x, x, num(1), x, x), op("fold", x, x, x, num(1), x), op("fold", x, x, x, op("true"), x), op("let", called("let"), x, x), op("map", x, called("0"), x), op("fold", x, x, called("fold"), x, x), op("fold", x, x, x, called(""), x),
		nested(num(1), 24), nested(x, 24), nested(op("let", x, num(1), num(2)), 23), nested(op("map", num(1), x, num(2)), 23), nested(op("list", num(1)), 23), nested(num(1), 5000), op("add", num(1), nested(num(1), 23)), op("add", nested(num(1), 23), num(1)),
		long(4097), long(4098), long(20000), op("neg", long(4092)), ring("neg"), ring("list"), ring("let"), wide(24), wide(20),
	}
	for _, s := range notNames() {
		all = append(all, called(s), op("let", called(s), num(1), x), op("map", num(1), called(s), x), op("neg", called(s)))
	}
	for _, n := range slices.Concat(leaves()[:30], twigs()) {
		all = append(all, spoiled(n)...)
		all = append(all, otherKids(n)...)
	}
	for _, n := range all {
		all = append(all, op("neg", n), op("add", x, n), op("list", x, n, x), op("let", x, n, x), op("let", x, x, n), op("map", n, x, x), op("fold", x, n, x, x, x), op("fold", x, x, x, x, n))
	}
	return all
}

// ring tells a term that stands in itself.
func ring(word string) Node {
	kids := []Node{called("x"), num(1), num(2)}
	if word == "neg" {
		kids = kids[:1]
	}
	last := len(kids) - 1
	kids[last] = Node{Op: word, Kids: kids}
	return kids[last]
}

// wide tells a term so deep, in which one list of Kids stands in many places.
func wide(depth int) Node {
	n := num(1)
	for range depth - 1 {
		n = many(64, n)
	}
	return n
}

// spoiled tells n with each field set that its Op doesn't name.
func spoiled(n Node) []Node {
	var bad []Node
	if n.Op != "int" && n.Op != "side" {
		w := n
		w.Int = 1
		bad = append(bad, w)
		w.Int = -1 << 63
		bad = append(bad, w)
	}
	if n.Op != "text_of" && n.Op != "name" {
		w := n
		w.Text = "x"
		bad = append(bad, w)
		w.Text = "\x00"
		bad = append(bad, w)
	}
	if n.Op != "nil" && n.Op != "none" {
		for _, t := range []kind.Type{typeOf("int"), typeOf("list(int)"), {Kind: -1}, {Args: []kind.Type{{}}}} {
			w := n
			w.Type = t
			bad = append(bad, w)
		}
	}
	return bad
}

// otherKids tells n with a Kid too many, and one too few.
func otherKids(n Node) []Node {
	more, fewer := n, n
	more.Kids = slices.Concat(n.Kids, []Node{called("x")})
	bad := []Node{more}
	if n.Op == "list" && len(n.Kids) < 64 {
		bad = nil
	}
	if len(n.Kids) > 0 && (n.Op != "list" || len(n.Kids) == 1) {
		fewer.Kids = n.Kids[:len(n.Kids)-1]
		bad = append(bad, fewer)
	}
	return bad
}

// same: are they one and the same, right or not, seen by plain recursion?
func same(a, b Node) bool {
	return a.Op == b.Op && a.Int == b.Int && a.Text == b.Text && sameType(a.Type, b.Type) && slices.EqualFunc(a.Kids, b.Kids, same)
}

func sameType(a, b kind.Type) bool {
	return a.Kind == b.Kind && slices.EqualFunc(a.Args, b.Args, sameType)
}

func wantTerm(t *testing.T, s string, want Node) {
	t.Helper()
	n, at, e := Parse(s)
	if !same(n, want) || at != 0 || e != api.OK {
		t.Errorf("Parse(%q): %v, %d, %d; want %v", s, n, at, e, want)
	}
}

func wantFault(t *testing.T, s string, place int) {
	t.Helper()
	n, at, e := Parse(s)
	if !same(n, Node{}) || n.Kids != nil || n.Type.Args != nil || at != place || e != api.ErrSyntax {
		t.Errorf("Parse(%q): %v, %d, %d; want ErrSyntax, %d", s, n, at, e, place)
	}
}
