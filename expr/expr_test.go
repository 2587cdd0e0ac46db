package expr

import (
	"math/rand"
	"slices"
	"strings"
	"testing"
	"unsafe"

	"watershed/api"
	"watershed/kind"
)

// P4.1, P4.2: right terms and their texts, there and back, without blanks and with blanks at every place; their sizes.
func TestRight(t *testing.T) {
	r := rand.New(rand.NewSource(2))
	for _, n := range rights() {
		s := plainText(n, noGap)
		if e := Check(n); e != api.OK {
			t.Errorf("Check(%s): %d", s, e)
		}
		if got, e := Show(n); got != s || e != api.OK {
			t.Errorf("Show: %q, %d; want %q", got, e, s)
		}
		if got, e := Size(n); got != plainSize(n) || e != api.OK {
			t.Errorf("Size(%s): %d, %d; want %d", s, got, e, plainSize(n))
		}
		wantTerm(t, s, n)
		for _, gap := range []func() string{func() string { return " " }, func() string { return strings.Repeat(" ", r.Intn(4)) }} {
			if s := gap() + plainText(n, gap) + gap(); len(s) <= 4096 {
				wantTerm(t, s, n)
			}
		}
	}
}

// P4.1, P4.2: some texts and their terms, as the chapter has them.
func TestTexts(t *testing.T) {
	x, y := called("x"), called("y")
	for _, c := range []struct {
		s    string
		n    Node
		size int
	}{
		{"add(it,1)", op("add", op("it"), num(1)), 3}, {"0", num(0), 1}, {"-9223372036854775808", num(-1 << 63), 1}, {"9223372036854775807", num(1<<63 - 1), 1}, {`"a\22\5c\00\7f\ffb"`, str("a\"\\\x00\x7f\xffb"), 1}, {`""`, str(""), 1},
		{"true", op("true"), 1}, {"false", op("false"), 1}, {"it", op("it"), 1}, {"its", called("its"), 1}, {"side(0)", side(0), 1}, {"side(9)", side(9), 1},
		{"nil(list(int))", typed("nil", "list(int)"), 1}, {"none(pair(int,text))", typed("none", "pair(int,text)"), 1}, {"list(1)", op("list", num(1)), 2}, {"list(1,x,it)", op("list", num(1), x, op("it")), 4},
		{"let(x,1,y)", op("let", x, num(1), y), 4}, {"map(y,x,1)", op("map", y, x, num(1)), 4}, {"filter(y,x,1)", op("filter", y, x, num(1)), 4}, {"fold(1,2,y,x,3)", op("fold", num(1), num(2), y, x, num(3)), 6},
		{"if(true,1,cut(x,0,2))", op("if", op("true"), num(1), op("cut", x, num(0), num(2))), 7}, {"text(bytes(text_of))", op("text", op("bytes", called("text_of"))), 3}, {"int", called("int"), 1},
	} {
		wantTerm(t, c.s, c.n)
		if s, e := Show(c.n); s != c.s || e != api.OK {
			t.Errorf("Show: %q, %d; want %q", s, e, c.s)
		}
		if n, e := Size(c.n); n != c.size || e != api.OK {
			t.Errorf("Size(%s): %d, %d; want %d", c.s, n, e, c.size)
		}
	}
	wantTerm(t, " let ( x , -1 , list ( x,  side ( 3 ) , nil ( int ) ) )  ", op("let", x, num(-1), op("list", x, side(3), typed("nil", "int"))))
}

// P4.2, P4.3: what isn't right is refused by every call, wherever the fault stands, and nothing is told beside.
// P1: what stands in itself, or in very many places, is refused too.
func TestWrong(t *testing.T) {
	for i, n := range wrongs() {
		if e := Check(n); e != api.ErrOp {
			t.Errorf("Check of wrong term %d (%s): %d", i, n.Op, e)
		}
		if s, e := Show(n); s != "" || e != api.ErrOp {
			t.Errorf("Show of wrong term %d (%s): %q, %d", i, n.Op, s, e)
		}
		if size, e := Size(n); size != 0 || e != api.ErrOp {
			t.Errorf("Size of wrong term %d (%s): %d, %d", i, n.Op, size, e)
		}
		if names, e := Free(n); names != nil || e != api.ErrOp {
			t.Errorf("Free of wrong term %d (%s): %q, %d", i, n.Op, names, e)
		}
	}
}

// P4.2: nil and empty lists are one.
func TestEmptyLists(t *testing.T) {
	for _, n := range leaves() {
		n.Kids = []Node{}
		if n.Op != "nil" && n.Op != "none" {
			n.Type.Args = []kind.Type{}
		}
		if s, e := Show(n); s != plainText(n, noGap) || e != api.OK {
			t.Errorf("Show: %q, %d", s, e)
		}
	}
}

// P4.1, P4.2: texts of 4096 bytes, and of one more.
func TestLong(t *testing.T) {
	for _, n := range []Node{long(4096), op("neg", long(4091))} {
		s := plainText(n, noGap)
		if len(s) != 4096 {
			t.Fatalf("the test's own text has %d bytes", len(s))
		}
		wantTerm(t, s, n)
	}
	wantTerm(t, "1"+strings.Repeat(" ", 4095), num(1))
	wantTerm(t, strings.Repeat(" ", 4095)+"1", num(1))
	wantFault(t, strings.Repeat(" ", 4096), 4096)
	wantFault(t, plainText(long(4097), noGap)[:4096], 4096)
	wantFault(t, "add("+strings.Repeat(" ", 4092), 4096)
	for _, s := range []string{plainText(long(4097), noGap), "1" + strings.Repeat(" ", 4096), strings.Repeat(" ", 4097), strings.Repeat("\x00", 4097), strings.Repeat("add(", 1<<18)} {
		if n, at, e := Parse(s); !same(n, Node{}) || at != 0 || e != api.ErrLong {
			t.Errorf("Parse of %d bytes: %v, %d, %d; want ErrLong", len(s), n, at, e)
		}
	}
}

// P4.2: the greatest depth, and one more, by each Kid of each word, names among them.
func TestGreatestDepth(t *testing.T) {
	for _, n := range twigs() {
		parts := n.Kids
		for i := range parts {
			kids := slices.Clone(parts)
			if kids[i].Op != "name" {
				kids[i] = nested(num(1), 22)
				wantDepth(t, op(n.Op, kids...), true)
				kids[i] = nested(num(1), 23)
				wantDepth(t, op(n.Op, kids...), false)
			}
		}
		wantDepth(t, nested(n, 22), true)
		wantDepth(t, nested(n, 23), false)
	}
}

// wantDepth: is a term, but for its depth right, taken or not, and its text too?
func wantDepth(t *testing.T, n Node, good bool) {
	t.Helper()
	s := plainText(n, noGap)
	if e := Check(n); (e == api.OK) != good {
		t.Errorf("Check(%s): %d", s, e)
	}
	if _, _, e := Parse(s); (e == api.OK) != good {
		t.Errorf("Parse(%s): %d", s, e)
	}
}

// P4.3: the names that are not bound.
func TestFree(t *testing.T) {
	for _, c := range []struct{ s, names string }{
		{"map(x,y,add(y,z))", "x z"}, {"1", ""}, {`"x"`, ""}, {"it", ""}, {"side(1)", ""}, {"nil(int)", ""}, {"x", "x"}, {"list(z,y,x,y,z,a0,a_,a)", "a a0 a_ x y z"},
		{"let(x,1,x)", ""}, {"let(x,x,x)", "x"}, {"let(x,y,z)", "y z"}, {"let(x,1,y)", "y"}, {"add(let(x,1,x),x)", "x"}, {"add(x,let(x,1,x))", "x"}, {"let(x,1,let(y,x,add(x,y)))", ""}, {"let(x,let(x,x,x),x)", "x"}, {"let(x,let(y,1,y),y)", "y"},
		{"map(x,x,x)", "x"}, {"map(1,x,x)", ""}, {"map(y,x,y)", "y"}, {"map(map(1,x,x),y,x)", "x"}, {"filter(x,x,x)", "x"}, {"filter(1,x,x)", ""}, {"filter(1,x,y)", "y"}, {"filter(y,x,x)", "y"},
		{"fold(1,2,x,y,add(x,y))", ""}, {"fold(x,2,x,y,1)", "x"}, {"fold(1,x,x,y,1)", "x"}, {"fold(y,2,x,y,1)", "y"}, {"fold(1,y,x,y,1)", "y"}, {"fold(1,2,x,y,z)", "z"}, {"fold(1,2,x,x,x)", ""}, {"fold(1,2,x,y,3)", ""},
		{"let(x,1,let(x,2,x))", ""}, {"let(x,1,let(x,x,x))", ""}, {"let(x,1,add(let(x,2,x),x))", ""}, {"map(a,x,map(b,x,list(x,y)))", "a b y"}, {"let(x,1,map(x,y,filter(y,z,list(x,y,z,w))))", "w"}, {"let(x,1,list(let(y,2,y),y))", "y"},
		{"let(addx,it,add(addx,add_))", "add_"}, {"fold(range(it),0,a,x,add(a,x))", ""}, {"if(x,let(y,1,x),y)", "x y"},
	} {
		n, _, e := Parse(c.s)
		if e != api.OK {
			t.Fatalf("Parse(%q): %d", c.s, e)
		}
		if names, e := Free(n); strings.Join(names, " ") != c.names || e != api.OK {
			t.Errorf("Free(%s): %q, %d; want %s", c.s, names, e, c.names)
		}
	}
}

// plainFree gathers the names that stand where they are not bound, as the chapter says it.
func plainFree(n Node, bound map[string]int, free map[string]int) {
	with := func(names ...Node) map[string]int {
		more := map[string]int{}
		for s := range bound {
			more[s] = 1
		}
		for _, s := range names {
			more[s.Text] = 1
		}
		return more
	}
	switch n.Op {
	case "name":
		if bound[n.Text] == 0 {
			free[n.Text] = 1
		}
	case "let":
		plainFree(n.Kids[1], bound, free)
		plainFree(n.Kids[2], with(n.Kids[0]), free)
	case "map", "filter":
		plainFree(n.Kids[0], bound, free)
		plainFree(n.Kids[2], with(n.Kids[1]), free)
	case "fold":
		plainFree(n.Kids[0], bound, free)
		plainFree(n.Kids[1], bound, free)
		plainFree(n.Kids[4], with(n.Kids[2], n.Kids[3]), free)
	default:
		for _, k := range n.Kids {
			plainFree(k, bound, free)
		}
	}
}

// P4.3: names of any terms, each once, and rising.
func TestFreeAny(t *testing.T) {
	r := rand.New(rand.NewSource(3))
	for range 3000 {
		n := anyTerm(r, 2+r.Intn(5))
		if Check(n) != api.OK {
			continue
		}
		want := map[string]int{}
		plainFree(n, map[string]int{}, want)
		names, e := Free(n)
		if e != api.OK || len(names) != len(want) || !slices.IsSorted(names) {
			t.Errorf("Free(%s): %q, %d; want %v", plainText(n, noGap), names, e, want)
		}
		for _, s := range names {
			if want[s] == 0 {
				t.Errorf("Free(%s): %q is not free", plainText(n, noGap), s)
			}
		}
	}
}

// twin tells n in other memory, whether it is right or not; spare room stands behind all Kids.
func twin(n Node) Node {
	kids := make([]Node, len(n.Kids), len(n.Kids)+2)
	for i := range n.Kids {
		kids[i] = twin(n.Kids[i])
	}
	spare := kids[:cap(kids)]
	for i := len(kids); i < len(spare); i++ {
		spare[i] = num(4711)
	}
	n.Kids = kids
	args := append(make([]kind.Type, 0, len(n.Type.Args)+1), n.Type.Args...)
	args[:cap(args)][len(args)] = typeOf("point")
	n.Type.Args = args
	return n
}

// untouched: is n, made by twin, what it was, and its spare room too?
func untouched(n, was Node) bool {
	args := n.Type.Args[:len(n.Type.Args)+1]
	if !same(n, was) || args[len(args)-1].Kind != api.Point {
		return false
	}
	for _, k := range n.Kids[:cap(n.Kids)][len(n.Kids):] {
		if !same(k, num(4711)) {
			return false
		}
	}
	for i := range n.Kids {
		if !untouched(n.Kids[i], was.Kids[i]) {
			return false
		}
	}
	return true
}

// P4.4: nothing that is handed in is changed, right or wrong, its spare room neither.
func TestUntouched(t *testing.T) {
	wrong := []Node{{}, op("add", num(1)), op("let", num(1), num(2), num(3)), op("neg", op("foo", num(1))), many(65, num(1)), nested(num(1), 30), {Op: "nil"}, {Op: "it", Int: 1, Kids: []Node{num(1)}}}
	for _, was := range append(rights(), wrong...) {
		n := twin(was)
		Check(n)
		Show(n)
		Size(n)
		Free(n)
		if !untouched(n, was) {
			t.Errorf("%v was changed to %v", was, n)
		}
	}
}

// rooms gathers where lists and texts lie, spare room too, and tells whether any is there already.
func rooms(taken map[any]bool, n Node) bool {
	shared := false
	take := func(place any) {
		shared = shared || taken[place]
		taken[place] = true
	}
	spare := n.Kids[:cap(n.Kids)]
	for i := range spare {
		take(&spare[i])
	}
	takeArgs(take, n.Type)
	if n.Op == "name" || n.Op == "text_of" && n.Text != "" {
		take(unsafe.StringData(n.Text))
	}
	for _, k := range n.Kids {
		shared = rooms(taken, k) || shared
	}
	return shared
}

func takeArgs(take func(any), t kind.Type) {
	spare := t.Args[:cap(t.Args)]
	for i := range spare {
		take(&spare[i])
	}
	for _, a := range t.Args {
		takeArgs(take, a)
	}
}

// P4.4: no two lists and no two texts of one answer share memory, nor of two answers, nor with what was handed in.
func TestMemory(t *testing.T) {
	s := strings.Clone(`let(x,list(nil(list(list(int))),"ab",x,"ab",none(pair(int,int))),fold(x,y,z1,z1,add(z1,conj_)))`)
	taken := map[any]bool{}
	for i := range len(s) {
		taken[unsafe.StringData(s[i:])] = true
	}
	for range 3 {
		n, _, e := Parse(s)
		if e != api.OK || rooms(taken, n) {
			t.Fatalf("an answer of Parse shares memory, or %d", e)
		}
		for range 2 {
			names, _ := Free(n)
			if strings.Join(names, " ") != "conj_ x y" {
				t.Fatalf("Free: %q", names)
			}
			for i, name := range names {
				if taken[unsafe.StringData(name)] || taken[&names[i]] {
					t.Error("an answer of Free shares memory")
				}
				taken[unsafe.StringData(name)], taken[&names[i]] = true, true
			}
		}
		shown, _ := Show(n)
		if shown != s || taken[unsafe.StringData(shown)] {
			t.Error("an answer of Show shares memory")
		}
		taken[unsafe.StringData(shown)] = true
	}
	lone, _, _ := Parse(s[4:5])
	if text, _ := Show(lone); text != "x" || unsafe.StringData(text) == unsafe.StringData(lone.Text) {
		t.Error("a name's text shares memory with it")
	}
}

// P4.4: what was told stays what it is, when what was handed in is changed.
func TestNotKept(t *testing.T) {
	n := op("add", called("x"), op("neg", called("y")))
	s, _ := Show(n)
	names, _ := Free(n)
	n.Kids[1].Kids[0] = num(1)
	n.Kids[0] = called("z")
	if s != "add(x,neg(y))" || strings.Join(names, " ") != "x y" {
		t.Errorf("what was told has changed to %q, %q", s, names)
	}
}
