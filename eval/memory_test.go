package eval

import (
	"fmt"
	"slices"
	"strings"
	"testing"
	"unsafe"

	"watershed/api"
	"watershed/check"
	"watershed/expr"
	"watershed/kind"
)

// roomyType tells t in other memory, with spare room behind all lists.
func roomyType(t kind.Type) kind.Type {
	args := make([]kind.Type, 0, len(t.Args)+1)
	for _, a := range t.Args {
		args = append(args, roomyType(a))
	}
	args[:cap(args)][len(args)] = kind.Type{Kind: 4711}
	return kind.Type{Kind: t.Kind, Args: args}
}

// roomy tells n in other memory, with spare room behind all lists.
func roomy(n expr.Node) expr.Node {
	kids := make([]expr.Node, 0, len(n.Kids)+1)
	for _, k := range n.Kids {
		kids = append(kids, roomy(k))
	}
	kids[:cap(kids)][len(kids)] = expr.Node{Op: "int", Int: 4711}
	n.Op, n.Text = strings.Clone(n.Op), strings.Clone(n.Text)
	n.Type, n.Kids = roomyType(n.Type), kids
	return n
}

// roomyValue tells v in other memory, with spare room behind all lists.
func roomyValue(v api.Value) api.Value {
	values := make([]api.Value, 0, len(v.List)+1)
	for _, w := range v.List {
		values = append(values, roomyValue(w))
	}
	values[:cap(values)][len(values)] = number(4711)
	v.Text, v.List = strings.Clone(v.Text), values
	return v
}

// roomyGiven tells the same in other memory, with spare room behind all lists.
func roomyGiven(g given) given {
	more := given{env: check.Env{It: roomyType(g.env.It), Sides: make([]kind.Type, 0, 20)}, it: roomyValue(g.it), sides: make([]api.Value, 0, 20)}
	for _, t := range g.env.Sides {
		more.env.Sides = append(more.env.Sides, roomyType(t))
	}
	for _, v := range g.sides {
		more.sides = append(more.sides, roomyValue(v))
	}
	return more
}

// seenType tells all that is in a type, its spare room too.
func seenType(t kind.Type) string {
	s := fmt.Sprint(t.Kind, len(t.Args))
	for _, a := range t.Args[:cap(t.Args)] {
		s += "[" + seenType(a) + "]"
	}
	return s
}

// seen tells all that is in a term, its spare room too.
func seen(n expr.Node) string {
	s := fmt.Sprintf("%q %d %q %s %d", n.Op, n.Int, n.Text, seenType(n.Type), len(n.Kids))
	for _, k := range n.Kids[:cap(n.Kids)] {
		s += "{" + seen(k) + "}"
	}
	return s
}

// seenValue tells all that is in a value, its spare room too.
func seenValue(v api.Value) string {
	s := fmt.Sprintf("%d %d %q %v %d", v.Kind, v.Int, v.Text, v.Point, len(v.List))
	for _, w := range v.List[:cap(v.List)] {
		s += "(" + seenValue(w) + ")"
	}
	return s
}

// seenGiven tells all that is handed in beside a term, its spare room too.
func seenGiven(g given) string {
	s := seenType(g.env.It) + seenValue(g.it) + fmt.Sprint(len(g.env.Sides), len(g.sides))
	for _, t := range g.env.Sides[:cap(g.env.Sides)] {
		s += seenType(t)
	}
	for _, v := range g.sides[:cap(g.sides)] {
		s += seenValue(v)
	}
	return s
}

// rich is a given whose it has lists, texts and options in it.
func rich() given {
	g := usual()
	g.env.It, g.it = typeOf("list(pair(text,option(list(text))))"), said(`[("ab" !["abc" "d"]) ("" none) ("abcd" ![])]`)
	return g
}

// pieces are texts of functions of what is rich, which tell parts of what they are given, some of them many times.
func pieces() []string {
	all := []string{
		"pair(it,it)", "list(it)", "list(it,it,it)", "some(it)", "at(it,0)", "at(it,9)", "or_else(at(it,0),pair(side(0),none(list(text))))", "first(pair(it,it))", "cons(pair(side(0),none(list(text))),it)", "concat(it,it)", "concat(it,nil(pair(text,option(list(text)))))", "concat(nil(pair(text,option(list(text)))),it)", "sort(it)", "sort(concat(it,it))", "list(sort(it),sort(it))", "or_else(none(list(pair(text,option(list(text))))),it)",
		"let(x,it,pair(x,x))", "map(it,x,x)", "map(it,x,it)", "map(it,x,list(x,x))", "map(it,x,first(x))", "map(it,x,second(x))", "filter(it,x,true)", "filter(it,x,is_some(second(x)))", "fold(it,it,a,x,a)", "fold(it,it,a,x,cons(x,a))", "fold(it,nil(list(text)),a,x,cons(or_else(second(x),nil(text)),a))", "if(side(6),it,it)",
		`"abc"`, `list("abc","abc")`, `let(x,"abc",list(x,x))`, `join(side(0),"")`, `join("",side(0))`, `join(side(0),"x")`, "cut(side(0),0,3)", "cut(side(0),1,3)", "list(side(0),side(0))", "bytes(side(0))", "text(side(2))", "text(bytes(side(0)))", "pair(side(0),bytes(side(0)))", "list(side(7),side(7))", "side(9)", "at(side(9),0)", "list(range(3),range(3))", "show(12345)",
		"x", "add(it,1)", "list(1,add(y,2))", "len(map(range(64),x,map(range(64),y,x)))",
	}
	for _, c := range words {
		if !strings.Contains(c.s, "it") {
			all = append(all, c.s)
		}
	}
	return all
}

// P6.4: nothing that is handed in is changed, its spare room neither, right or wrong.
func TestUntouched(t *testing.T) {
	terms := []expr.Node{{}, {Op: "add"}, {Op: "nil", Type: kind.Type{Kind: api.List}}, {Op: "list", Kids: []expr.Node{{}}}}
	for _, s := range pieces() {
		terms = append(terms, term(s))
	}
	for _, was := range terms {
		n, g := roomy(was), roomyGiven(rich())
		before, around := seen(n), seenGiven(g)
		f, e := New(n, g.env)
		if e == api.OK {
			f.Type()
			f.Run(g.it, g.sides...)
			f.Emit(g.it, g.sides...)
			f.Run(g.sides[0], g.sides...)
			f.Emit(g.it, g.sides[1:]...)
			f.Run(g.it, g.sides[:len(g.sides)+1]...)
		}
		if seen(n) != before || seenGiven(g) != around {
			s, _ := expr.Show(was)
			t.Errorf("what %s was given has changed", s)
		}
	}
}

// taken has all places of memory that something was seen at.
type taken map[any]bool

// take takes a list's places and its spare ones, and tells whether one was taken already.
func take[T any](places taken, list []T) (shared bool) {
	room := list[:cap(list)]
	for i := range room {
		shared = shared || places[&room[i]]
		places[&room[i]] = true
	}
	return shared
}

func (places taken) text(s string) (shared bool) {
	for i := range len(s) {
		at := unsafe.StringData(s[i:])
		shared = shared || places[at]
		places[at] = true
	}
	return shared
}

func (places taken) typ(t kind.Type) (shared bool) {
	shared = take(places, t.Args)
	for _, a := range t.Args {
		shared = places.typ(a) || shared
	}
	return shared
}

func (places taken) value(v api.Value) (shared bool) {
	shared = take(places, v.List)
	shared = places.text(v.Text) || shared
	for _, w := range v.List {
		shared = places.value(w) || shared
	}
	return shared
}

func (places taken) term(n expr.Node) {
	take(places, n.Kids)
	places.text(n.Op)
	places.text(n.Text)
	places.typ(n.Type)
	for _, k := range n.Kids {
		places.term(k)
	}
}

// P6.4: no two lists or texts of one answer share memory, nor of two answers, nor with what was handed in.
func TestMemory(t *testing.T) {
	for _, s := range pieces() {
		n, g := roomy(term(s)), roomyGiven(rich())
		places := taken{}
		places.term(n)
		places.typ(g.env.It)
		places.value(g.it)
		take(places, g.env.Sides)
		take(places, g.sides)
		for i := range g.sides {
			places.typ(g.env.Sides[i])
			places.value(g.sides[i])
		}
		f, e := New(n, g.env)
		if e != api.OK {
			continue
		}
		for range 3 {
			v, _, _ := f.Run(g.it, g.sides...)
			values, _ := f.Emit(g.it, g.sides...)
			if places.value(v) || places.value(api.Value{List: values}) {
				t.Errorf("an answer of %s shares memory", s)
			}
			if places.typ(f.Type()) {
				t.Errorf("the type of %s shares memory", s)
			}
		}
	}
}

// spoil lays wrong things into all that a term has.
func spoil(n expr.Node) {
	for i := range n.Kids {
		spoil(n.Kids[i])
		n.Kids[i] = expr.Node{Op: "text_of", Text: "spoilt"}
	}
	spoilType(n.Type)
}

func spoilType(t kind.Type) {
	for i := range t.Args {
		spoilType(t.Args[i])
		t.Args[i] = kind.Type{Kind: api.Bool}
	}
}

func spoilValue(v api.Value) {
	for i := range v.List {
		spoilValue(v.List[i])
		v.List[i] = api.Value{Kind: api.Text, Text: "spoilt"}
	}
}

// P6.4: a function stays what it is when what it was made of is changed, and an answer stays what it is when what was handed in is.
func TestNotKept(t *testing.T) {
	for _, s := range pieces() {
		n, g := roomy(term(s)), roomyGiven(rich())
		f, e := New(n, g.env)
		if e != api.OK {
			continue
		}
		typ, _ := kind.Show(f.Type())
		spoil(n)
		spoilType(g.env.It)
		for i := range g.env.Sides {
			spoilType(g.env.Sides[i])
			g.env.Sides[i] = typeOf("bool")
		}
		want, fuel := plainRun(term(s), rich())
		for range 2 {
			g := roomyGiven(rich())
			v, took, e := f.Run(g.it, g.sides...)
			values, _ := f.Emit(g.it, g.sides...)
			emitted := seenValue(api.Value{List: values})
			spoilValue(g.it)
			for i := range g.sides {
				spoilValue(g.sides[i])
			}
			if e == api.OK && (shown(v) != want || took != fuel) || (e == api.OK) != (want != "") {
				t.Errorf("%s has changed: %s, %d, %d; want %s, %d", s, shown(v), took, e, want, fuel)
			}
			if seenValue(api.Value{List: values}) != emitted {
				t.Errorf("what %s emitted has changed", s)
			}
			told := f.Type()
			if now, _ := kind.Show(told); now != typ {
				t.Errorf("the type of %s has changed to %s; want %s", s, now, typ)
			}
			spoilType(told)
			spoilValue(v)
			spoilValue(api.Value{List: values})
		}
	}
}

// P6.2: a function answers the same as often as it is asked, whatever it was asked between.
func TestSame(t *testing.T) {
	g := usual()
	var all []*Fn
	for _, c := range words {
		all = append(all, made(t, c.s, g.env))
	}
	countdown := made(t, "let(x,it,fold(range(it),nil(int),a,y,concat(map(range(x),x,add(x,y)),a)))", g.env)
	for round := range 4 {
		for i, c := range words {
			if v, fuel, e := all[i].Run(g.it, g.sides...); shown(v) != c.answer || fuel != c.fuel || e != api.OK {
				t.Errorf("%s in round %d: %s, %d, %d; want %s, %d", c.s, round, shown(v), fuel, e, c.answer, c.fuel)
			}
			all[i].Emit(g.it, g.sides...)
			all[i].Run(api.Value{}, g.sides...)
			all[i].Run(g.it)
		}
		for _, it := range []int{3, 64, 0, 40, 3, -1, 1, 64, 3} {
			g := g
			g.it = number(it)
			want, fuel := plainRun(countdown.term, g)
			v, took, e := countdown.Run(g.it, g.sides...)
			if (e == api.ErrFuel) != (want == "") || e == api.OK && (shown(v) != want || took != fuel) {
				t.Errorf("of %d in round %d: %s, %d, %d; want %s, %d", it, round, shown(v), took, e, want, fuel)
			}
		}
	}
	// Functions of one term don't share what they are given.
	one, other := made(t, "list(it,it)", envOf("int")), made(t, "list(it,it)", envOf("text"))
	v, _, _ := one.Run(number(1))
	w, _, _ := other.Run(said(`"a"`))
	if got := []string{shown(v), shown(w)}; !slices.Equal(got, []string{"[1 1]", `["a" "a"]`}) {
		t.Errorf("two functions of one term: %v", got)
	}
}
