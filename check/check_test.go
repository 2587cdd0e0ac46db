package check

import (
	"maps"
	"math/rand"
	"slices"
	"strings"
	"testing"

	"watershed/api"
	"watershed/expr"
	"watershed/kind"
)

// P5.1, P5.2: what each word comes to at types that fit.
func TestTypes(t *testing.T) {
	env := given("int", "text", "point", "bytes", "pair(int,text)", "list(point)", "option(list(int))", "bool")
	for _, c := range []struct{ s, typ string }{
		{"0", "int"}, {"-5", "int"}, {`""`, "text"}, {`"it"`, "text"}, {"true", "bool"}, {"false", "bool"}, {"it", "int"}, {"side(0)", "text"}, {"side(1)", "point"}, {"side(4)", "list(point)"}, {"side(6)", "bool"},
		{"nil(int)", "list(int)"}, {"nil(list(pair(int,text)))", "list(list(pair(int,text)))"}, {"none(int)", "option(int)"}, {"none(option(bool))", "option(option(bool))"},
		{"add(it,1)", "int"}, {"sub(it,1)", "int"}, {"mul(it,1)", "int"}, {"add(side(1),side(1))", "point"}, {"sub(side(1),side(1))", "point"}, {"mul(side(1),side(1))", "point"}, {"neg(it)", "int"}, {"neg(side(1))", "point"}, {"div(it,0)", "int"}, {"mod(it,2)", "int"},
		{"eq(it,1)", "bool"}, {"eq(side(3),side(3))", "bool"}, {"eq(side(5),none(list(int)))", "bool"}, {"lt(it,1)", "bool"}, {"lt(side(1),side(1))", "bool"}, {"lt(side(4),nil(point))", "bool"}, {"lt(true,false)", "bool"},
		{"and(true,side(6))", "bool"}, {"or(true,side(6))", "bool"}, {"not(side(6))", "bool"}, {"if(true,1,it)", "int"}, {"if(side(6),side(3),side(3))", "pair(int,text)"}, {"if(true,true,true)", "bool"},
		{"pair(it,side(0))", "pair(int,text)"}, {"pair(side(3),side(4))", "pair(pair(int,text),list(point))"}, {"first(side(3))", "int"}, {"second(side(3))", "text"}, {"first(pair(side(3),it))", "pair(int,text)"}, {"second(pair(it,it))", "int"},
		{"list(it)", "list(int)"}, {"list(it,1,2)", "list(int)"}, {"list(side(3),side(3))", "list(pair(int,text))"}, {"cons(side(1),side(4))", "list(point)"}, {"cons(it,nil(int))", "list(int)"}, {"concat(side(4),nil(point))", "list(point)"}, {"len(side(4))", "int"}, {"at(side(4),it)", "option(point)"}, {"at(list(side(5)),0)", "option(option(list(int)))"}, {"sort(side(4))", "list(point)"}, {"range(it)", "list(int)"},
		{"some(it)", "option(int)"}, {"some(side(5))", "option(option(list(int)))"}, {"is_some(side(5))", "bool"}, {"is_some(none(text))", "bool"}, {"or_else(side(5),nil(int))", "list(int)"}, {"or_else(some(it),it)", "int"},
		{`join(side(0),"a")`, "text"}, {"size(side(0))", "int"}, {"size(side(2))", "int"}, {"cut(side(0),1,it)", "text"}, {"cut(side(2),1,it)", "bytes"}, {"bytes(side(0))", "bytes"}, {"text(side(2))", "text"}, {"show(it)", "text"},
		{"point(it,1)", "point"}, {"re(side(1))", "int"}, {"im(side(1))", "int"}, {"conj(side(1))", "point"},
		{"let(x,side(0),x)", "text"}, {"let(x,side(0),it)", "int"}, {"map(side(4),x,x)", "list(point)"}, {"map(side(4),x,re(x))", "list(int)"}, {"map(range(it),x,pair(x,it))", "list(pair(int,int))"}, {"map(range(it),x,side(4))", "list(list(point))"}, {"filter(side(4),x,eq(x,conj(x)))", "list(point)"}, {"filter(side(4),x,true)", "list(point)"},
		{"fold(range(it),0,a,x,add(a,x))", "int"}, {"fold(side(4),side(0),y,x,y)", "text"}, {"fold(side(4),0,y,x,add(y,im(x)))", "int"}, {"fold(side(4),nil(int),y,x,cons(re(x),y))", "list(int)"},
	} {
		wantType(t, c.s, env, c.typ)
		wantPlain(t, term(c.s), env)
	}
}

// P5.1: the chapter's own faults, and one or more at each place of each word that doesn't fit.
func TestFaults(t *testing.T) {
	env := given("int", "text", "point", "bytes", "pair(int,text)", "list(point)", "option(list(int))", "bool")
	for _, s := range []string{
		`add(it,"a")`, `add("a",it)`, `add("a","b")`, "add(side(1),1)", "add(1,side(1))", "sub(true,1)", "sub(1,side(1))", "mul(side(4),side(4))", "mul(side(1),it)", "neg(side(0))", "neg(true)", "div(side(1),side(1))", "div(1,side(1))", "mod(side(1),1)", "mod(1,true)",
		`eq(1,"a")`, "eq(side(0),side(2))", "eq(nil(int),nil(text))", "eq(nil(int),none(int))", "lt(side(3),pair(1,1))", "lt(1,true)", "and(1,true)", "and(true,1)", "or(1,true)", "or(true,1)", "not(1)", "if(1,1,1)", `if(true,1,"a")`, `if(true,"a",1)`, "if(true,nil(int),nil(text))",
		"first(1)", "first(side(4))", "second(1)", "second(side(5))", `list(1,"a")`, `list("a",1,1)`, "list(1,1,true)", "cons(1,1)", "cons(1,side(4))", "cons(side(4),side(4))", "cons(side(4),side(1))", "concat(side(4),range(1))", "concat(1,side(4))", "concat(side(4),1)", "concat(side(4),side(1))", "concat(side(5),side(5))", "len(1)", "len(side(0))", "len(side(5))", "at(1,1)", "at(side(4),side(4))", "at(1,side(4))", "sort(1)", "sort(side(3))", "range(true)", "range(range(1))",
		"is_some(1)", "is_some(side(4))", "or_else(1,1)", "or_else(side(5),1)", "or_else(side(5),side(5))", "or_else(side(4),side(1))", `join("a",1)`, `join(1,"a")`, "join(side(2),side(2))", "size(1)", "size(side(4))", "cut(1,1,1)", `cut(side(0),"a",1)`, `cut(side(0),1,"a")`, "cut(side(2),side(2),1)", "cut(side(2),1,side(2))", "cut(side(4),1,1)", "bytes(side(2))", "bytes(1)", "text(side(0))", "text(1)", "show(side(0))", "show(side(1))",
		"point(1,true)", "point(true,1)", "point(side(1),1)", "re(1)", "im(1)", "conj(1)", "re(side(3))", "map(it,x,y)", "map(side(5),x,x)", "filter(it,x,true)", "filter(side(4),x,1)", "filter(side(4),x,x)", "fold(it,0,y,x,0)", `fold(side(4),0,y,x,"a")`, "fold(side(4),0,y,x,x)", "fold(side(4),nil(int),y,x,nil(text))", "fold(side(3),0,y,x,y)",
	} {
		wantFault(t, s, env, api.ErrType)
		wantPlain(t, term(s), env)
		wantFault(t, "let(x,1,list(2,neg("+s+")))", env, api.ErrType, 2, 1, 0)
	}
	for _, s := range []string{"x", "its", "int", "text_of", "name", "bool", "side_"} {
		wantFault(t, s, env, api.ErrName)
		wantFault(t, "list(1,add("+s+",2))", env, api.ErrName, 1, 0)
	}
}

// P5.1: every word, at every choice of types for its Kids.
func TestEveryWord(t *testing.T) {
	all := samples()
	typs := slices.Sorted(maps.Keys(all))
	for typ, n := range all {
		want(t, n, given("bool"), typ, nil, api.OK)
	}
	for word, rules := range ways {
		if strings.Contains(" list map filter fold ", " "+word+" ") {
			continue
		}
		count := len(rules[0]) - 1
		choices := 1
		for range count {
			choices *= len(typs)
		}
		fits := 0
		for choice := range choices {
			var kids []expr.Node
			var kinds []string
			for range count {
				typ := typs[choice%len(typs)]
				choice /= len(typs)
				kids, kinds = append(kids, all[typ]), append(kinds, typ)
			}
			typ, fault := plainRule(word, kinds)
			want(t, op(word, kids...), given("bool"), typ, nil, fault)
			if fault == api.OK {
				fits++
			}
		}
		if fits == 0 {
			t.Errorf("%s fits nowhere", word)
		}
	}
}

// P5.1: let, map, filter and fold, at every choice of types for their Kids.
func TestEveryBinder(t *testing.T) {
	all, env := samples(), given("bool")
	x, y := called("x"), called("y")
	for _, l := range all {
		wantPlain(t, op("let", x, l, x), env)
		wantPlain(t, op("map", l, x, x), env)
		wantPlain(t, op("filter", l, x, x), env)
		wantPlain(t, op("fold", l, l, y, x, x), env)
		for _, d := range all {
			wantPlain(t, op("let", x, l, d), env)
			wantPlain(t, op("map", l, x, d), env)
			wantPlain(t, op("filter", l, x, d), env)
			wantPlain(t, op("fold", l, d, y, x, y), env)
			wantPlain(t, op("fold", l, d, y, x, x), env)
			for _, e := range all {
				wantPlain(t, op("fold", l, d, y, x, e), env)
			}
		}
	}
}

// P5.1: a list of any number, from one to 64, and one among them that doesn't fit.
func TestLists(t *testing.T) {
	env := given("int", "point")
	wantType(t, "list(side(0))", env, "list(point)")
	for _, count := range []int{1, 2, 3, 63, 64} {
		for _, kid := range []expr.Node{num(1), side(0), typed("nil", typeOf("int"))} {
			kids := slices.Repeat([]expr.Node{kid}, count)
			one, _, _ := plainInfer(kid, env, nil)
			want(t, op("list", kids...), env, "list("+one+")", nil, api.OK)
			for i := range kids {
				kids[i] = str("a")
				if count > 1 {
					want(t, op("list", kids...), env, "", nil, api.ErrType)
				}
				kids[i] = called("x")
				want(t, op("list", kids...), env, "", []int{i}, api.ErrName)
				kids[i] = kid
			}
		}
	}
	none, many := op("list"), op("list", slices.Repeat([]expr.Node{num(1)}, 65)...)
	want(t, none, env, "", nil, api.ErrOp)
	want(t, many, env, "", nil, api.ErrOp)
}

// P5.1: an env has up to 10 sides, and right types.
func TestEnv(t *testing.T) {
	for _, s := range []string{"it", "1", "add(it,1)", `add(it,"a")`, "x"} {
		for count := range 14 {
			env := given("int", slices.Repeat([]string{"text"}, count)...)
			if count > 10 {
				wantFault(t, s, env, api.ErrKind)
			} else {
				wantPlain(t, term(s), env)
			}
		}
	}
	for count := range 11 {
		env := given("bool")
		for i := range count {
			env.Sides = append(env.Sides, typeOf(deep(1+i%6)))
		}
		for i := range 10 {
			if i < count {
				want(t, side(i), env, deep(1+i%6), nil, api.OK)
			} else {
				want(t, side(i), env, "", nil, api.ErrSide)
				want(t, op("list", num(1), op("neg", side(i))), env, "", []int{1, 0}, api.ErrSide)
			}
		}
	}
	for i, wrong := range wrongTypes() {
		for _, s := range []string{"1", "it", "side(0)", "list(it,x)", "nil(int)"} {
			wantFault(t, s, Env{It: wrong}, api.ErrKind)
			for _, place := range []int{0, 1, 9} {
				env := given("list(int)", slices.Repeat([]string{"int"}, 10)...)
				env.Sides[place] = wrong
				wantFault(t, s, env, api.ErrKind)
			}
		}
		if _, _, e := Infer(num(1), Env{It: typeOf("int"), Sides: []kind.Type{wrong}}); e != api.ErrKind {
			t.Errorf("an env with wrong type %d: %d", i, e)
		}
	}
	long := Env{It: typeOf("int"), Sides: make([]kind.Type, 1<<20)}
	wantFault(t, "it", long, api.ErrKind)
	wantFault(t, "it", Env{}, api.ErrKind)
}

// P5.1, P5.2: terms that aren't right are refused ahead of all else. P1: those too that stand in themselves.
func TestWrongTerms(t *testing.T) {
	inItself := op("neg", num(1))
	inItself.Kids[0] = inItself
	tree := num(1)
	for range 23 {
		tree = op("list", slices.Repeat([]expr.Node{tree}, 64)...)
	}
	wrong := []expr.Node{
		{}, op("add", num(1)), op("add", num(1), num(1), num(1)), op("foo", num(1)), op("let", num(1), num(2), num(3)), op("map", num(1), num(2), num(3)), op("fold", num(1), num(2), called("x"), num(3), num(4)), called("it"), called(""), called("X"), side(10), side(-1), {Op: "it", Int: 1}, {Op: "nil"}, {Op: "int", Kids: []expr.Node{num(1)}},
		str(strings.Repeat("a", 257)), nested(num(1), 24), nested(num(1), 1000), inItself, tree,
	}
	for _, w := range wrongTypes() {
		wrong = append(wrong, typed("nil", w), typed("none", w))
	}
	for _, n := range wrong {
		for _, env := range []Env{given("int"), given("int", slices.Repeat([]string{"int"}, 10)...), {}, {It: ring()}, given("int", slices.Repeat([]string{"int"}, 11)...)} {
			want(t, n, env, "", nil, api.ErrOp)
			want(t, op("list", called("x"), n), env, "", nil, api.ErrOp)
		}
	}
}

// P5.1: at the greatest depth of types, and one deeper.
func TestGreatestDepth(t *testing.T) {
	five, six := deep(5), deep(6)
	env := given("int", five, six, "list("+deep(4)+")")
	for _, c := range []struct{ s, typ string }{
		{"nil(" + five + ")", six}, {"none(" + five + ")", "option(" + five + ")"}, {"side(1)", six}, {"let(x,side(1),x)", six},
		{"pair(it,side(0))", "pair(int," + five + ")"}, {"pair(side(0),it)", "pair(" + five + ",int)"}, {"pair(side(0),side(0))", "pair(" + five + "," + five + ")"}, {"list(side(0))", six}, {"list(side(0),side(0))", six}, {"some(side(0))", "option(" + five + ")"},
		{"cons(side(0),side(1))", six}, {"cons(side(0),nil(" + five + "))", six}, {"concat(side(1),side(1))", six}, {"sort(side(1))", six}, {"at(side(1),0)", "option(" + five + ")"}, {"map(side(2),x,side(0))", six}, {"map(range(it),x,side(0))", six}, {"filter(side(1),x,true)", six}, {"fold(side(1),side(1),y,x,cons(x,y))", six}, {"or_else(some(side(0)),side(0))", five}, {"if(true,side(1),side(1))", six},
	} {
		wantType(t, c.s, env, c.typ)
	}
	for _, s := range []string{
		"nil(" + six + ")", "none(" + six + ")", "pair(it,side(1))", "pair(side(1),it)", "pair(side(1),side(1))", "list(side(1))", "list(side(1),side(1))", "some(side(1))", "cons(side(1),side(1))", "map(side(2),x,side(1))", "map(range(it),x,side(1))", "map(range(it),x,list(side(0)))",
	} {
		wantFault(t, s, env, api.ErrType)
		wantPlain(t, term(s), env)
		wantFault(t, "list(it,let(y,it,"+s+"))", env, api.ErrType, 1, 2)
	}
	wantFault(t, "map(range(it),x,list(side(1)))", env, api.ErrType, 2)
	wantFault(t, "list(it,nil("+six+"),x)", env, api.ErrType, 1)
	wantFault(t, "cons(side(1),nil("+six+"))", env, api.ErrType, 1)
}

// P5.1: names are bound where the chapter says, and to what.
func TestNames(t *testing.T) {
	env := given("int", "text", "list(point)")
	for _, c := range []struct{ s, typ string }{
		{"let(x,1,let(x,side(0),x))", "text"}, {"let(x,side(0),let(y,1,x))", "text"}, {"let(x,1,let(x,pair(x,side(0)),x))", "pair(int,text)"}, {"let(x,1,add(let(x,2,x),x))", "int"}, {"let(x,1,pair(let(x,side(0),x),x))", "pair(text,int)"}, {"let(x,let(x,side(0),x),pair(x,1))", "pair(text,int)"},
		{"let(x,side(0),map(side(1),x,x))", "list(point)"}, {"let(x,side(1),map(x,x,x))", "list(point)"}, {"map(side(1),x,let(x,side(0),x))", "list(text)"}, {"map(side(1),x,map(range(1),x,x))", "list(list(int))"}, {"map(side(1),x,map(range(1),y,x))", "list(list(point))"},
		{"let(x,side(1),filter(x,x,eq(re(x),1)))", "list(point)"}, {"filter(side(1),x,let(x,true,x))", "list(point)"}, {"let(x,side(1),fold(x,x,y,x,cons(x,y)))", "list(point)"}, {"let(y,side(1),fold(y,0,y,x,add(y,re(x))))", "int"}, {"let(x,0,let(y,side(1),fold(y,x,y,x,add(y,re(x)))))", "int"},
		{"fold(side(1),point(0,0),x,x,x)", "point"}, {"fold(side(1),0,x,x,re(x))", "int"}, {"fold(range(1),side(0),x,x,show(x))", "text"}, {"fold(side(1),side(0),y,x,let(y,x,let(x,y,side(0))))", "text"}, {"pair(let(x,1,x),let(x,side(0),x))", "pair(int,text)"}, {"let(abcdefghijklmnop,1,let(abcdefghijklmno,true,abcdefghijklmnop))", "int"},
	} {
		wantType(t, c.s, env, c.typ)
		wantPlain(t, term(c.s), env)
	}
	for _, c := range []struct {
		s     string
		place []int
	}{
		{"let(x,x,1)", []int{1}}, {"let(x,let(x,x,1),x)", []int{1, 1}}, {"let(x,1,y)", []int{2}}, {"add(let(x,1,x),x)", []int{1}}, {"list(x,let(x,1,x))", []int{0}}, {"let(x,let(y,1,y),y)", []int{2}}, {"let(x,1,let(y,y,x))", []int{2, 1}},
		{"map(x,x,x)", []int{0}}, {"map(list(x),x,x)", []int{0, 0}}, {"map(side(1),x,y)", []int{2}}, {"map(list(it),x,y)", []int{2}}, {"pair(map(side(1),x,x),x)", []int{1}}, {"filter(x,x,true)", []int{0}}, {"filter(side(1),x,y)", []int{2}}, {"concat(filter(side(1),x,true),x)", []int{1}},
		{"fold(x,1,y,x,1)", []int{0}}, {"fold(y,1,y,x,1)", []int{0}}, {"fold(side(1),x,y,x,1)", []int{1}}, {"fold(side(1),y,y,x,1)", []int{1}}, {"fold(side(1),1,y,x,z)", []int{4}}, {"fold(side(1),1,x,x,y)", []int{4}}, {"add(fold(side(1),1,y,x,y),y)", []int{1}}, {"add(fold(side(1),1,y,x,y),x)", []int{1}},
	} {
		wantFault(t, c.s, env, api.ErrName, c.place...)
		wantPlain(t, term(c.s), env)
	}
	// The inner one of two names that are alike is the one that a list's values have.
	wantFault(t, "fold(side(1),0,x,x,x)", env, api.ErrType)
	wantFault(t, "fold(side(1),0,x,x,add(x,1))", env, api.ErrType, 4)
}

// P5.1: of several faults the first one, with its place.
func TestFirstFault(t *testing.T) {
	env := given("int", "text")
	for _, c := range []struct {
		s     string
		fault api.Errno
		place []int
	}{
		{"add(x,side(5))", api.ErrName, []int{0}}, {"add(side(5),x)", api.ErrSide, []int{0}}, {`add("a",x)`, api.ErrName, []int{1}}, {`if("a",1,x)`, api.ErrName, []int{2}}, {"if(neg(true),x,side(9))", api.ErrType, []int{0}}, {"add(add(1,true),x)", api.ErrType, []int{0}}, {"add(add(true,x),y)", api.ErrName, []int{0, 1}},
		{`list(1,"a",x)`, api.ErrName, []int{2}}, {`list(1,"a",list(2,x))`, api.ErrName, []int{2, 1}}, {"list(1,add(x,2))", api.ErrName, []int{1, 0}}, {"cut(1,true,side(1))", api.ErrSide, []int{2}}, {"list(pair(1,some(neg(true))),x)", api.ErrType, []int{0, 1, 0}},
		{"let(x,y,z)", api.ErrName, []int{1}}, {"let(x,neg(true),y)", api.ErrType, []int{1}}, {"let(x,1,neg(side(3)))", api.ErrSide, []int{2, 0}}, {"neg(let(x,true,x))", api.ErrType, nil}, {"let(x,true,neg(x))", api.ErrType, []int{2}},
		{"map(it,x,y)", api.ErrType, nil}, {"map(it,x,neg(true))", api.ErrType, nil}, {"map(y,x,neg(true))", api.ErrName, []int{0}}, {"map(list(it),x,y)", api.ErrName, []int{2}}, {"map(list(it),x,neg(true))", api.ErrType, []int{2}}, {"list(map(it,x,y),z)", api.ErrType, []int{0}}, {"map(map(it,x,y),x,z)", api.ErrType, []int{0}}, {"map(list(it),x,map(x,y,z))", api.ErrType, []int{2}},
		{"filter(it,x,y)", api.ErrType, nil}, {"filter(side(1),x,y)", api.ErrSide, []int{0}}, {"filter(list(it),x,y)", api.ErrName, []int{2}}, {"filter(list(it),x,neg(true))", api.ErrType, []int{2}}, {"filter(list(it),x,it)", api.ErrType, nil}, {"neg(filter(list(it),x,it))", api.ErrType, []int{0}},
		{"fold(it,y,y,x,z)", api.ErrName, []int{1}}, {"fold(it,0,y,x,z)", api.ErrType, nil}, {"fold(it,neg(true),y,x,z)", api.ErrType, []int{1}}, {"fold(z,side(7),y,x,z)", api.ErrName, []int{0}}, {"fold(list(it),0,y,x,z)", api.ErrName, []int{4}}, {"fold(list(it),0,y,x,neg(true))", api.ErrType, []int{4}}, {"fold(list(it),0,y,x,true)", api.ErrType, nil}, {"list(fold(it,0,y,x,z),z)", api.ErrType, []int{0}},
		{"add(side(0),side(1))", api.ErrSide, []int{1}}, {"pair(map(list(it),x,pair(x,w)),z)", api.ErrName, []int{0, 2, 1}},
	} {
		wantFault(t, c.s, env, c.fault, c.place...)
		wantPlain(t, term(c.s), env)
		wantFault(t, "list(1,let(w0,1,"+c.s+"),v)", env, c.fault, append([]int{1, 2}, c.place...)...)
	}
	// The deepest term is 23 Kids away.
	place := slices.Repeat([]int{0}, 23)
	negs, closed := strings.Repeat("neg(", 23), strings.Repeat(")", 23)
	wantFault(t, negs+"x"+closed, env, api.ErrName, place...)
	wantFault(t, negs+"side(1)"+closed, env, api.ErrSide, place...)
	wantFault(t, negs+"true"+closed, env, api.ErrType, place[1:]...)
	wantType(t, negs+"it"+closed, env, "int")
}

// P5.2: what is no list emits nothing; of lists it is what is in them.
func TestEmits(t *testing.T) {
	env := given("int", "list(list(text))", "option(list(int))")
	for _, c := range []struct{ s, typ string }{{"map(range(it),x,pair(x,it))", "pair(int,int)"}, {"list(it)", "int"}, {"side(0)", "list(text)"}, {"nil(option(int))", "option(int)"}, {"nil(" + deep(5) + ")", deep(5)}, {"let(x,list(it),x)", "int"}} {
		if typ, at, e := Emits(term(c.s), env); typeText(typ) != c.typ || len(at) != 0 || e != api.OK {
			t.Errorf("Emits(%s): %s, %v, %d; want %s", c.s, typeText(typ), at, e, c.typ)
		}
	}
	for _, c := range []struct {
		s     string
		fault api.Errno
		place []int
	}{
		{"it", api.ErrType, nil}, {"side(1)", api.ErrType, nil}, {"sub(0,it)", api.ErrType, nil}, {"pair(list(it),list(it))", api.ErrType, nil}, {"let(x,list(it),1)", api.ErrType, nil}, {"list(1,true)", api.ErrType, nil}, {"list(1,neg(true))", api.ErrType, []int{1}}, {"list(1,add(x,2))", api.ErrName, []int{1, 0}}, {"list(side(2))", api.ErrSide, []int{0}},
	} {
		if typ, at, e := Emits(term(c.s), env); typeText(typ) != "" || !slices.Equal(at, c.place) || e != c.fault {
			t.Errorf("Emits(%s): %s, %v, %d; want %v, %d", c.s, typeText(typ), at, e, c.place, c.fault)
		}
	}
}

// P5.1: a term whose text has 4096 bytes, and one with one more.
func TestLong(t *testing.T) {
	row := op("list")
	for range 15 {
		row.Kids = append(row.Kids, str(strings.Repeat("a", 256)))
	}
	row.Kids = append(row.Kids, str(strings.Repeat("a", 203)))
	if s := textOf(row); len(s) != 4096 {
		t.Fatalf("the test's own text has %d bytes", len(s))
	}
	want(t, row, given("int"), "list(text)", nil, api.OK)
	row.Kids[15].Text += "a"
	want(t, row, given("int"), "", nil, api.ErrOp)
}

// P5.1, P5.2: any terms, with faults and without.
func TestAny(t *testing.T) {
	r := rand.New(rand.NewSource(5))
	faults := map[api.Errno]int{}
	right := 0
	for i := range 20000 {
		m := &maker{r: r, strays: i%2 == 0}
		m.env.It = m.anyType(3)
		for range r.Intn(4) {
			m.env.Sides = append(m.env.Sides, m.anyType(3))
		}
		typ := m.anyType(3)
		n := m.make(typ, nil, 1+r.Intn(5))
		if expr.Check(n) != api.OK {
			want(t, n, m.env, "", nil, api.ErrOp)
			continue
		}
		if m.strayed {
			_, _, e := plainInfer(n, m.env, nil)
			faults[e]++
		} else {
			right++
			want(t, n, m.env, typeText(typ), nil, api.OK)
		}
		wantPlain(t, n, m.env)
	}
	if right < 5000 || faults[api.OK] < 300 || faults[api.ErrType] < 300 || faults[api.ErrName] < 300 || faults[api.ErrSide] < 300 {
		t.Errorf("too few of a kind: %d, %v", right, faults)
	}
}
