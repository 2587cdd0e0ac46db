package eval

import (
	"slices"
	"strings"
	"testing"

	"watershed/api"
	"watershed/check"
	"watershed/expr"
	"watershed/kind"
	"watershed/value"
)

// ring tells a value that stands in itself.
func ring() api.Value {
	l := []api.Value{none()}
	l[0] = some(api.Value{})
	l[0].List[0] = api.Value{Kind: api.Some, List: l}
	return l[0]
}

// deep tells a value that is so many Somes deep.
func deep(somes int) api.Value {
	v := number(1)
	for range somes {
		v = some(v)
	}
	return v
}

// P6.1: what isn't right, or has no type, is no function, and the error is layer 5's.
func TestNoFunction(t *testing.T) {
	inItself := expr.Node{Op: "neg", Kids: []expr.Node{{Op: "it"}}}
	inItself.Kids[0] = inItself
	long := expr.Node{Op: "text_of", Text: strings.Repeat("a", 257)}
	lists := kind.Type{Kind: api.List, Args: []kind.Type{{}}}
	lists.Args[0] = lists
	right, wrongEnv := usual().env, check.Env{It: kind.Type{Kind: api.None}}
	many := envOf("int", slices.Repeat([]string{"int"}, 11)...)
	for i, c := range []struct {
		n   expr.Node
		env check.Env
		e   api.Errno
	}{
		{expr.Node{}, right, api.ErrOp}, {expr.Node{Op: "add"}, right, api.ErrOp}, {expr.Node{Op: "it", Int: 1}, right, api.ErrOp}, {expr.Node{Op: "side", Int: 10}, right, api.ErrOp}, {expr.Node{Op: "name", Text: "it"}, right, api.ErrOp}, {expr.Node{Op: "nil"}, right, api.ErrOp}, {expr.Node{Op: "list"}, right, api.ErrOp}, {inItself, right, api.ErrOp}, {long, right, api.ErrOp}, {expr.Node{Op: "none", Type: lists}, right, api.ErrOp},
		{expr.Node{}, wrongEnv, api.ErrOp}, {expr.Node{}, check.Env{}, api.ErrOp}, {expr.Node{}, many, api.ErrOp},
		{term("it"), check.Env{}, api.ErrKind}, {term("1"), wrongEnv, api.ErrKind}, {term("x"), wrongEnv, api.ErrKind}, {term("side(9)"), many, api.ErrKind}, {term("1"), check.Env{It: lists}, api.ErrKind}, {term("1"), check.Env{It: typeOf("int"), Sides: []kind.Type{typeOf("int"), {}}}, api.ErrKind}, {term(`add(1,"a")`), many, api.ErrKind},
		{term("x"), right, api.ErrName}, {term("add(it,x)"), right, api.ErrName}, {term("let(x,x,1)"), right, api.ErrName}, {term("if(true,1,x)"), right, api.ErrName}, {term("pair(let(x,1,x),x)"), right, api.ErrName}, {term("map(nil(int),x,y)"), right, api.ErrName}, {term("fold(side(7),a,a,x,a)"), right, api.ErrName},
		{term("it"), many, api.ErrKind}, {term("side(9)"), right, api.OK}, {term("side(9)"), envOf("int", slices.Repeat([]string{"int"}, 9)...), api.ErrSide}, {term("side(0)"), envOf("int"), api.ErrSide}, {term("list(x,side(0))"), envOf("int"), api.ErrName}, {term("list(side(0),x)"), envOf("int"), api.ErrSide},
		{term(`add(it,"a")`), right, api.ErrType}, {term(`if(true,1,"a")`), right, api.ErrType}, {term("map(it,x,y)"), right, api.ErrType}, {term("filter(side(7),x,x)"), right, api.ErrType}, {term("fold(side(7),0,a,x,true)"), right, api.ErrType}, {term("some(some(some(some(some(some(1))))))"), right, api.ErrType}, {term("if(true,1,neg(true))"), right, api.ErrType},
	} {
		f, e := New(c.n, c.env)
		if e != c.e || (f == nil) != (e != api.OK) {
			t.Errorf("New of case %d: %v, %d; want %d", i, f, e, c.e)
		}
		if _, _, five := check.Infer(c.n, c.env); e != five {
			t.Errorf("New of case %d: %d; layer 5 has %d", i, e, five)
		}
	}
}

// P6.2, P6.3: what isn't of the type that the env says is refused, as it and as each of the sides.
func TestWrongValues(t *testing.T) {
	g := usual()
	types := append([]kind.Type{g.env.It}, g.env.Sides...)
	values := append([]api.Value{g.it}, g.sides...)
	wrong := []api.Value{{}, {Kind: 10}, {Kind: -1}, {Kind: api.Bool, Int: 2}, {Kind: api.Int, Int: 1, Text: "a"}, {Kind: api.Text, Text: strings.Repeat("a", 257)}, {Kind: api.Bytes, Text: strings.Repeat("a", 257)}, {Kind: api.Point, Point: 0.5}, {Kind: api.Point, Point: 1 << 20}, {Kind: api.None, Int: 1}, {Kind: api.Some}, {Kind: api.Pair, List: []api.Value{number(5)}}, {Kind: api.List, List: make([]api.Value, 65)}, sized(2001), ring(), deep(7), deep(8), said("[1 true]"), said(`("b" 5)`), said(`(5 'b')`), said("![4 none]"), said("[[1 2] [<1 2>]]"), said("[[1] 2]"), said("!!1")}
	for _, s := range []string{"list(it)", "nil(int)", "1", "side(0)", "if(true,1,len(map(range(64),x,map(range(64),y,x))))", "len(map(range(64),x,map(range(64),y,x)))", "map(range(64),x,map(range(64),y,x))"} {
		f := made(t, s, g.env)
		emitted := api.ErrValue
		if f.Type().Kind != api.List {
			emitted = api.ErrType
		}
		refused := func(what string, all []api.Value) {
			t.Helper()
			v, fuel, e := f.Run(all[0], all[1:]...)
			if !isNothing(v) || fuel != 0 || e != api.ErrValue {
				t.Errorf("%s, %s: Run: %s, %d, %d", s, what, shown(v), fuel, e)
			}
			if l, e := f.Emit(all[0], all[1:]...); l != nil || e != emitted {
				t.Errorf("%s, %s: Emit: %v, %d; want %d", s, what, l, e, emitted)
			}
		}
		for i := range values {
			given := slices.Clone(values)
			for _, w := range append(wrong, values...) {
				given[i] = w
				if !kind.Has(types[i], w) {
					refused(shownOf(w)+" at a wrong place", given)
				}
			}
		}
		for many := 1; many < len(values); many++ {
			refused("too few sides", values[:many])
		}
		refused("too many sides", append(slices.Clone(values), number(1)))
		refused("too many sides", append(slices.Clone(values), values[1:]...))
		refused("too many sides", append(slices.Clone(values), make([]api.Value, 1000)...))
		refused("nothing", []api.Value{{}})
	}
	f := made(t, "it", envOf("int"))
	if v, fuel, e := f.Run(number(1), number(1)); !isNothing(v) || fuel != 0 || e != api.ErrValue {
		t.Errorf("a side where there is none: %s, %d, %d", shown(v), fuel, e)
	}
	if v, fuel, e := f.Run(number(1)); v.Int != 1 || fuel != 1 || e != api.OK {
		t.Errorf("no side: %s, %d, %d", shown(v), fuel, e)
	}
}

// shownOf tells the text of a value, if it is right.
func shownOf(v api.Value) string {
	if value.Check(v) != api.OK {
		return "a wrong value"
	}
	return shown(v)
}

// P6.3: what is no list emits nothing, and what ends doesn't either.
func TestNoEmit(t *testing.T) {
	g := usual()
	const endless, broad = "map(range(64),x,map(range(64),y,x))", "map(range(64),x,range(40))"
	for _, c := range []struct {
		s string
		e api.Errno
	}{
		{"it", api.ErrType}, {"side(5)", api.ErrType}, {"side(8)", api.ErrType}, {"pair(side(7),side(7))", api.ErrType}, {"some(side(7))", api.ErrType}, {`""`, api.ErrType}, {"len(" + endless + ")", api.ErrType}, {"some(" + broad + ")", api.ErrType},
		{endless, api.ErrFuel}, {broad, api.ErrFuel}, {"list(len(" + endless + "))", api.ErrFuel}, {"let(x," + broad + ",nil(int))", api.ErrFuel}, {"let(pad," + spending(1998) + ",list(it))", api.ErrFuel}, {"let(pad," + spending(1997) + ",list(it))", api.OK}, {"list(" + spending(1999) + ")", api.OK}, {"list(" + spending(2000) + ")", api.ErrFuel},
	} {
		l, e := made(t, c.s, g.env).Emit(g.it, g.sides...)
		if e != c.e || (l == nil) != (e != api.OK) {
			t.Errorf("%s: Emit: %v, %d; want %d", c.s, l, e, c.e)
		}
	}
}
