package check

import (
	"math/rand"
	"slices"
	"strings"
	"testing"

	"watershed/api"
	"watershed/expr"
	"watershed/kind"
)

func num(n int) expr.Node                         { return expr.Node{Op: "int", Int: n} }
func str(s string) expr.Node                      { return expr.Node{Op: "text_of", Text: s} }
func called(s string) expr.Node                   { return expr.Node{Op: "name", Text: s} }
func op(word string, kids ...expr.Node) expr.Node { return expr.Node{Op: word, Kids: kids} }
func side(n int) expr.Node                        { return expr.Node{Op: "side", Int: n} }
func typed(word string, t kind.Type) expr.Node    { return expr.Node{Op: word, Type: t} }

// term tells the term of a text.
func term(s string) expr.Node {
	n, at, e := expr.Parse(s)
	if e != api.OK {
		panic(s[:at] + " <fault> " + s[at:])
	}
	return n
}

// textOf tells the text of a term, right or not.
func textOf(n expr.Node) string {
	s, e := expr.Show(n)
	if e != api.OK {
		return "a wrong " + n.Op
	}
	return s
}

// typeOf tells the type of a text.
func typeOf(s string) kind.Type {
	t, at, e := kind.Parse(s)
	if e != api.OK {
		panic(s[:at] + " <fault> " + s[at:])
	}
	return t
}

// typeText tells the text of a type; that of none is "".
func typeText(t kind.Type) string {
	s, e := kind.Show(t)
	if e != api.OK && (t.Kind != 0 || len(t.Args) != 0) {
		return "a wrong type"
	}
	return s
}

// given tells the env with these types, that of it first.
func given(it string, sides ...string) Env {
	env := Env{It: typeOf(it)}
	for _, s := range sides {
		env.Sides = append(env.Sides, typeOf(s))
	}
	return env
}

// nested stands n in so many somes.
func nested(n expr.Node, times int) expr.Node {
	for range times {
		n = op("some", n)
	}
	return n
}

// deep tells the text of a type that is so deep.
func deep(depth int) string {
	return strings.Repeat("list(", depth-1) + "int" + strings.Repeat(")", depth-1)
}

// ring tells a type that stands in itself.
func ring() kind.Type {
	args := make([]kind.Type, 1)
	args[0] = kind.Type{Kind: api.List, Args: args}
	return args[0]
}

// wrongTypes are types that aren't right.
func wrongTypes() []kind.Type {
	number := typeOf("int")
	return []kind.Type{
		{}, {Kind: -1}, {Kind: -2}, {Kind: api.None}, {Kind: 10}, {Kind: api.List}, {Kind: api.Pair, Args: []kind.Type{number}}, {Kind: api.Int, Args: []kind.Type{number}},
		{Kind: api.List, Args: []kind.Type{{}}}, {Kind: api.List, Args: []kind.Type{{Kind: -1}}}, {Kind: api.Some, Args: []kind.Type{number, number}}, {Kind: api.List, Args: []kind.Type{typeOf(deep(6))}}, ring(),
	}
}

// want holds what Infer and Emits tell of a term against its type, or against its fault.
func want(t *testing.T, n expr.Node, env Env, typ string, place []int, fault api.Errno) {
	t.Helper()
	got, at, e := Infer(n, env)
	if typeText(got) != typ || !slices.Equal(at, place) || e != fault {
		t.Errorf("Infer(%s): %s, %v, %d; want %s, %v, %d", textOf(n), typeText(got), at, e, typ, place, fault)
	}
	emits := ""
	if rest, isList := strings.CutPrefix(typ, "list("); isList {
		emits = strings.TrimSuffix(rest, ")")
	} else if fault == api.OK {
		fault = api.ErrType
	}
	got, at, e = Emits(n, env)
	if typeText(got) != emits || !slices.Equal(at, place) || e != fault {
		t.Errorf("Emits(%s): %s, %v, %d; want %s, %v, %d", textOf(n), typeText(got), at, e, emits, place, fault)
	}
}

func wantType(t *testing.T, s string, env Env, typ string) {
	t.Helper()
	want(t, term(s), env, typ, nil, api.OK)
}

func wantFault(t *testing.T, s string, env Env, fault api.Errno, place ...int) {
	t.Helper()
	want(t, term(s), env, "", place, fault)
}

// wantPlain holds them against the chapter's rules.
func wantPlain(t *testing.T, n expr.Node, env Env) {
	t.Helper()
	typ, place, fault := plainInfer(n, env, nil)
	want(t, n, env, typ, place, fault)
}

// samples are terms of many types that stand by themselves, by their types.
func samples() map[string]expr.Node {
	all := map[string]expr.Node{}
	for typ, s := range map[string]string{
		"bool": "true", "int": "7", "text": `"a"`, "bytes": `bytes("a")`, "point": "point(1,2)",
		"pair(int,text)": `pair(1,"a")`, "pair(text,int)": `pair("a",1)`, "pair(int,int)": "pair(1,2)", "pair(bool,list(int))": "pair(true,nil(int))",
		"list(int)": "range(3)", "list(text)": "nil(text)", "list(bool)": "list(false)", "list(list(int))": "nil(list(int))", "list(pair(int,text))": "nil(pair(int,text))", "list(option(int))": "nil(option(int))",
		"option(int)": "some(1)", "option(text)": "none(text)", "option(list(int))": "none(list(int))", "option(point)": "none(point)",
	} {
		all[typ] = term(s)
	}
	return all
}

// named is a name and its type.
type named struct {
	name string
	typ  kind.Type
}

// maker makes any terms of any types, and strays from them now and then.
type maker struct {
	r       *rand.Rand
	env     Env
	strays  bool
	strayed bool
}

func (m *maker) anyType(depth int) kind.Type {
	if depth == 1 || m.r.Intn(3) == 0 {
		return kind.Type{Kind: 1 + m.r.Intn(5)}
	}
	switch m.r.Intn(3) {
	case 0:
		return of(api.List, m.anyType(depth-1))
	case 1:
		return of(api.Some, m.anyType(depth-1))
	}
	return of(api.Pair, m.anyType(depth-1), m.anyType(depth-1))
}

// least tells the plainest term of a type.
func least(t kind.Type) expr.Node {
	switch t.Kind {
	case api.Bool:
		return op("true")
	case api.Int:
		return num(1)
	case api.Text:
		return str("a")
	case api.Bytes:
		return op("bytes", str("a"))
	case api.Point:
		return op("point", num(1), num(2))
	case api.Pair:
		return op("pair", least(t.Args[0]), least(t.Args[1]))
	case api.List:
		return typed("nil", t.Args[0])
	}
	return typed("none", t.Args[0])
}

// there tells the terms of a type that are there by their names or by the env.
func (m *maker) there(t kind.Type, names []named) []expr.Node {
	all := []expr.Node{}
	if kind.Same(t, m.env.It) {
		all = append(all, op("it"))
	}
	for i, s := range m.env.Sides {
		if kind.Same(t, s) {
			all = append(all, side(i))
		}
	}
	hidden := map[string]bool{}
	for _, n := range slices.Backward(names) {
		if !hidden[n.name] && kind.Same(t, n.typ) {
			all = append(all, called(n.name))
		}
		hidden[n.name] = true
	}
	return all
}

// stray tells a term that may have no business where it stands.
func (m *maker) stray(names []named, room int) expr.Node {
	m.strayed = true
	switch m.r.Intn(4) {
	case 0:
		return called([]string{"x", "y", "z", "w"}[m.r.Intn(4)])
	case 1:
		return side(m.r.Intn(10))
	}
	return m.make(m.anyType(3), names, room-1)
}

// make makes a term of a type, in which these names are bound.
func (m *maker) make(t kind.Type, names []named, room int) expr.Node {
	if m.strays && m.r.Intn(25) == 0 {
		return m.stray(names, room)
	}
	if there := m.there(t, names); len(there) > 0 && m.r.Intn(2) == 0 {
		return there[m.r.Intn(len(there))]
	}
	if room <= 1 {
		return least(t)
	}
	sub := func(t kind.Type, names ...named) expr.Node { return m.make(t, names, room-1) }
	if m.r.Intn(2) == 0 {
		return m.through(t, names, room-1)
	}
	ways := m.ways(t, func(t kind.Type) expr.Node { return sub(t, names...) })
	if len(ways) == 0 {
		return least(t)
	}
	return ways[m.r.Intn(len(ways))]()
}

// through makes a term of a type by a word that has it through others, or that binds names.
func (m *maker) through(t kind.Type, names []named, room int) expr.Node {
	other := m.anyType(2)
	name := func() expr.Node { return called([]string{"x", "y", "z"}[m.r.Intn(3)]) }
	sub := func(t kind.Type, more ...named) expr.Node { return m.make(t, slices.Concat(names, more), room) }
	x, y := name(), name()
	way := m.r.Intn(7)
	if depth, _ := kind.Depth(t); depth == api.MaxKind && way > 0 && way < 4 {
		way = 6
	}
	switch way {
	case 0:
		return op("if", sub(typeOf("bool")), sub(t), sub(t))
	case 1:
		return op("first", sub(of(api.Pair, t, other)))
	case 2:
		return op("second", sub(of(api.Pair, other, t)))
	case 3:
		return op("or_else", sub(of(api.Some, t)), sub(t))
	case 4:
		return op("fold", sub(of(api.List, other)), sub(t), y, x, sub(t, named{y.Text, t}, named{x.Text, other}))
	case 5:
		if t.Kind != api.List {
			break
		}
		if m.r.Intn(2) == 0 {
			return op("filter", sub(t), x, sub(typeOf("bool"), named{x.Text, t.Args[0]}))
		}
		return op("map", sub(of(api.List, other)), x, sub(t.Args[0], named{x.Text, other}))
	}
	return op("let", x, sub(other), sub(t, named{x.Text, other}))
}

// ways are those words that make a term of a type.
func (m *maker) ways(t kind.Type, sub func(kind.Type) expr.Node) []func() expr.Node {
	truth, number, text, octets, point := typeOf("bool"), typeOf("int"), typeOf("text"), typeOf("bytes"), typeOf("point")
	other := m.anyType(2)
	var ways []func() expr.Node
	way := func(words string, kids ...kind.Type) {
		for _, w := range strings.Fields(words) {
			ways = append(ways, func() expr.Node {
				n := op(w)
				for _, k := range kids {
					n.Kids = append(n.Kids, sub(k))
				}
				return n
			})
		}
	}
	switch t.Kind {
	case api.Bool:
		way("and or", truth, truth)
		way("not", truth)
		way("eq lt", other, other)
		way("is_some", of(api.Some, other))
	case api.Int:
		way("add sub mul div mod", number, number)
		way("neg", number)
		way("re im", point)
		way("size", text)
		way("size", octets)
		way("len", of(api.List, other))
	case api.Text:
		way("join", text, text)
		way("cut", text, number, number)
		way("text", octets)
		way("show", number)
	case api.Bytes:
		way("cut", octets, number, number)
		way("bytes", text)
	case api.Point:
		way("add sub mul", point, point)
		way("neg conj", point)
		way("point", number, number)
	case api.Pair:
		way("pair", t.Args...)
	case api.List:
		way("cons", t.Args[0], t)
		way("concat", t, t)
		way("sort", t)
		way("list", slices.Repeat(t.Args, 1+m.r.Intn(4))...)
		if t.Args[0].Kind == api.Int {
			way("range", number)
		}
	case api.Some:
		way("some", t.Args[0])
		way("at", of(api.List, t.Args[0]), number)
	}
	return ways
}
