package check

import (
	"fmt"
	"slices"
	"testing"

	"watershed/api"
	"watershed/expr"
	"watershed/kind"
)

// roomyType tells t in other memory, with spare room behind all lists.
func roomyType(t kind.Type) kind.Type {
	args := make([]kind.Type, 0, len(t.Args)+1)
	for _, a := range t.Args {
		args = append(args, roomyType(a))
	}
	args[:cap(args)][len(args)] = kind.Type{Kind: 4711}
	return kind.Type{Kind: t.Kind, Args: args}
}

// roomy tells n in other memory, with spare room behind all lists.
func roomy(n expr.Node) expr.Node {
	kids := make([]expr.Node, 0, len(n.Kids)+2)
	for _, k := range n.Kids {
		kids = append(kids, roomy(k))
	}
	for i := len(kids); i < cap(kids); i++ {
		kids[:cap(kids)][i] = num(4711)
	}
	n.Type, n.Kids = roomyType(n.Type), kids
	return n
}

// roomyEnv tells env in other memory, with spare room behind all lists.
func roomyEnv(env Env) Env {
	more := Env{It: roomyType(env.It), Sides: make([]kind.Type, 0, len(env.Sides)+2)}
	for _, s := range env.Sides {
		more.Sides = append(more.Sides, roomyType(s))
	}
	for i := len(more.Sides); i < cap(more.Sides); i++ {
		more.Sides[:cap(more.Sides)][i] = roomyType(typeOf("list(point)"))
	}
	return more
}

// seenType tells all that is in a type, its spare room too.
func seenType(t kind.Type) string {
	s := fmt.Sprint(t.Kind, len(t.Args))
	for _, a := range t.Args[:cap(t.Args)] {
		s += "[" + seenType(a) + "]"
	}
	return s
}

// seen tells all that is in a term, its spare room too.
func seen(n expr.Node) string {
	s := fmt.Sprintf("%q %d %q %s %d", n.Op, n.Int, n.Text, seenType(n.Type), len(n.Kids))
	for _, k := range n.Kids[:cap(n.Kids)] {
		s += "{" + seen(k) + "}"
	}
	return s
}

// seenEnv tells all that is in an env, its spare room too.
func seenEnv(env Env) string {
	s := fmt.Sprint(seenType(env.It), len(env.Sides))
	for _, t := range env.Sides[:cap(env.Sides)] {
		s += "<" + seenType(t) + ">"
	}
	return s
}

// pieces are terms of all ways to come to a type that has lists in it, for the env below; some have faults.
func pieces() []expr.Node {
	var all []expr.Node
	for _, s := range []string{
		"it", "side(0)", "side(1)", "nil(list(int))", "none(pair(int,list(text)))", "pair(it,it)", "pair(side(0),it)", "list(it)", "list(it,it)", "some(side(1))", "some(pair(side(0),side(0)))", "first(it)", "first(second(it))", "cons(side(0),nil(list(int)))", "concat(nil(list(int)),list(side(0)))", "sort(list(it))", "at(list(it),0)", "or_else(some(it),it)", "if(true,it,it)", "if(true,side(0),nil(int))",
		"let(x,it,x)", "let(x,it,pair(x,pair(x,it)))", "let(x,nil(list(int)),pair(x,x))", "map(side(0),x,it)", "map(list(it),x,x)", "map(list(it),x,pair(x,x))", "filter(list(it),x,true)", "filter(side(0),x,eq(x,1))", "fold(side(0),it,y,x,y)", "fold(list(it),side(0),y,x,first(x))", "fold(side(0),nil(text),y,x,cons(show(x),y))", "range(len(side(0)))",
		"x", "list(1,add(x,2))", "side(2)", "list(it,side(0))", "map(it,x,y)", "map(side(0),x,list(x,y))", "fold(side(0),it,y,x,1)", "let(x,it,let(x,1,neg(side(2))))", "if(1,it,it)", "or_else(it,it)", "nil(" + deep(6) + ")",
	} {
		all = append(all, term(s))
	}
	return all
}

func pieceEnv() Env {
	return given("pair(list(int),pair(text,list(text)))", "list(int)", "option(list(bytes))")
}

// P5.3: nothing that is handed in is changed, right or wrong, its spare room neither.
func TestUntouched(t *testing.T) {
	terms := append(pieces(), expr.Node{}, op("add", num(1)), op("let", num(1), num(2), num(3)), nested(num(1), 30), typed("nil", kind.Type{Kind: api.List}), op("list"))
	envs := []Env{pieceEnv(), {}, {It: typeOf("list(int)"), Sides: []kind.Type{{Kind: api.Pair}}}, given("list(int)", slices.Repeat([]string{"list(int)"}, 11)...)}
	for _, was := range terms {
		for _, env := range envs {
			n, given := roomy(was), roomyEnv(env)
			term, types := seen(n), seenEnv(given)
			Infer(n, given)
			Emits(n, given)
			if seen(n) != term || seenEnv(given) != types {
				t.Errorf("%s or its env was changed", textOf(was))
			}
		}
	}
}

// P5.3: no two lists of one answer share memory, nor of two answers, nor with what was handed in.
func TestMemory(t *testing.T) {
	env := roomyEnv(pieceEnv())
	taken := map[any]bool{}
	var takeType func(t kind.Type) bool
	takeType = func(t kind.Type) (shared bool) {
		spare := t.Args[:cap(t.Args)]
		for i := range spare {
			shared = shared || taken[&spare[i]]
			taken[&spare[i]] = true
		}
		for _, a := range t.Args {
			shared = takeType(a) || shared
		}
		return shared
	}
	takePlace := func(at []int) (shared bool) {
		spare := at[:cap(at)]
		for i := range spare {
			shared = shared || taken[&spare[i]]
			taken[&spare[i]] = true
		}
		return shared
	}
	takeType(env.It)
	for _, s := range env.Sides[:cap(env.Sides)] {
		takeType(s)
	}
	for _, n := range pieces() {
		n = roomy(n)
		takeType(n.Type)
		for range 3 {
			for name, call := range map[string]func(expr.Node, Env) (kind.Type, []int, api.Errno){"Infer": Infer, "Emits": Emits} {
				typ, at, _ := call(n, env)
				if takeType(typ) || takePlace(at) {
					t.Errorf("an answer of %s(%s) shares memory", name, textOf(n))
				}
			}
		}
	}
}

// P5.3: what was told stays what it is, when what was handed in is changed; and what is told then hangs on nothing told before.
func TestNotKept(t *testing.T) {
	for _, was := range pieces() {
		n, env := roomy(was), roomyEnv(pieceEnv())
		typ, at, e := Infer(n, env)
		told, place := typeText(typ), slices.Clone(at)
		env.It.Args[0].Args[0].Kind = api.Point
		env.Sides[0].Args[0].Kind = api.Point
		env.Sides[1].Args[0].Args[0].Kind = api.Point
		if len(n.Type.Args) > 0 {
			n.Type.Args[0] = typeOf("bool")
		}
		if len(n.Kids) > 0 {
			n.Kids[0] = num(1)
		}
		if typeText(typ) != told || !slices.Equal(at, place) {
			t.Errorf("what was told of %s has changed to %s, %v", textOf(was), typeText(typ), at)
		}
		for i := range typ.Args {
			typ.Args[i] = kind.Type{}
		}
		for i := range at {
			at[i] = -1
		}
		want(t, was, pieceEnv(), told, place, e)
	}
}
