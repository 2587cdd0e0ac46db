package kind

import (
	"math/rand"
	"strings"
	"testing"

	"watershed/api"
	"watershed/value"
)

var (
	boolean = Type{Kind: api.Bool}
	integer = Type{Kind: api.Int}
	text    = Type{Kind: api.Text}
	octets  = Type{Kind: api.Bytes}
	point   = Type{Kind: api.Point}
)

func pair(a, b Type) Type { return Type{Kind: api.Pair, Args: []Type{a, b}} }
func list(a Type) Type    { return Type{Kind: api.List, Args: []Type{a}} }
func option(a Type) Type  { return Type{Kind: api.Some, Args: []Type{a}} }

// simple are the types without Args.
func simple() []Type { return []Type{boolean, integer, text, octets, point} }

// nested stands t in so many lists and options by turns.
func nested(t Type, times int) Type {
	for i := range times {
		if i%2 == 0 {
			t = list(t)
		} else {
			t = option(t)
		}
	}
	return t
}

// full tells the greatest type of a depth: pairs of pairs.
func full(depth int) Type {
	if depth == 1 {
		return octets
	}
	return pair(full(depth-1), full(depth-1))
}

// ring tells a type that stands in itself.
func ring() Type {
	args := []Type{integer}
	args[0] = Type{Kind: api.List, Args: args}
	return args[0]
}

// within tells all right types that are at most so deep.
func within(depth int) []Type {
	types := simple()
	if depth == 1 {
		return types
	}
	below := within(depth - 1)
	for _, a := range below {
		types = append(types, list(a), option(a))
		for _, b := range below {
			types = append(types, pair(a, b))
		}
	}
	return types
}

// anyType tells a right type that is at most so deep.
func anyType(r *rand.Rand, depth int) Type {
	if depth == 1 || r.Intn(4) == 0 {
		return simple()[r.Intn(5)]
	}
	switch r.Intn(4) {
	case 0:
		return list(anyType(r, depth-1))
	case 1:
		return option(anyType(r, depth-1))
	}
	return pair(anyType(r, depth-1), anyType(r, depth-1))
}

// rights are right types: all that are at most two deep, some of any depth, and the edges.
func rights() []Type {
	types := append(within(2), full(api.MaxKind))
	for _, t := range simple() {
		types = append(types, nested(t, api.MaxKind-1), list(nested(t, api.MaxKind-2)), pair(t, nested(t, api.MaxKind-2)), pair(nested(t, api.MaxKind-2), t))
		types = append(types, Type{Kind: t.Kind, Args: []Type{}})
	}
	r := rand.New(rand.NewSource(3))
	for range 100 {
		types = append(types, anyType(r, api.MaxKind))
	}
	return types
}

// wrongs are types that aren't right, each by one thing.
func wrongs() []Type {
	bad := []Type{
		{}, {Kind: -1}, {Kind: api.None}, {Kind: api.Some + 1}, {Kind: 1 << 40}, {Kind: api.None, Args: []Type{integer}},
		{Kind: api.Pair}, {Kind: api.List}, {Kind: api.Some}, {Kind: api.Pair, Args: []Type{}},
		{Kind: api.Pair, Args: []Type{integer}}, {Kind: api.Pair, Args: []Type{integer, integer, integer}},
		{Kind: api.List, Args: []Type{integer, integer}}, {Kind: api.Some, Args: []Type{integer, integer}},
		ring(), full(api.MaxKind + 1), nested(integer, api.MaxKind), nested(integer, 10000),
		pair(nested(integer, api.MaxKind-1), integer), pair(integer, nested(integer, api.MaxKind-1)),
		{Kind: api.List, Args: make([]Type, 1<<16)},
	}
	for _, t := range simple() {
		bad = append(bad, Type{Kind: t.Kind, Args: []Type{integer}})
	}
	for _, t := range bad {
		bad = append(bad, list(t), option(t), pair(t, integer), pair(integer, t), pair(text, option(list(t))))
	}
	return bad
}

// plainText tells a type's text, as the chapter says it.
func plainText(t Type) string {
	name := strings.Split("-,bool,int,text,bytes,point,pair,list,-,option", ",")[t.Kind]
	if len(t.Args) == 0 {
		return name
	}
	var inner []string
	for _, a := range t.Args {
		inner = append(inner, plainText(a))
	}
	return name + "(" + strings.Join(inner, ",") + ")"
}

// plainDepth tells how deep a type is.
func plainDepth(t Type) int {
	depth := 0
	for _, a := range t.Args {
		depth = max(depth, plainDepth(a))
	}
	return depth + 1
}

// same: are they one and the same, right or not, seen by plain recursion?
func same(a, b Type) bool {
	if a.Kind != b.Kind || len(a.Args) != len(b.Args) {
		return false
	}
	for i := range a.Args {
		if !same(a.Args[i], b.Args[i]) {
			return false
		}
	}
	return true
}

// twin tells t in other memory, with spare room behind all Args.
func twin(t Type) Type {
	args := make([]Type, len(t.Args), len(t.Args)+2)
	for i := range t.Args {
		args[i] = twin(t.Args[i])
	}
	spare := args[:cap(args)]
	for i := len(args); i < len(spare); i++ {
		spare[i] = Type{Kind: 4711}
	}
	return Type{Kind: t.Kind, Args: args}
}

// untouched: is t, made by twin, what it was, and its spare room too?
func untouched(t, was Type) bool {
	if !same(t, was) {
		return false
	}
	spare := t.Args[:cap(t.Args)]
	for i := len(t.Args); i < len(spare); i++ {
		if !same(spare[i], Type{Kind: 4711}) {
			return false
		}
	}
	for i := range t.Args {
		if !untouched(t.Args[i], was.Args[i]) {
			return false
		}
	}
	return true
}

// rooms gathers where lists lie, those within them and spare room too, and tells whether any is there already.
func rooms[T any](taken map[*T]bool, items []T, within func(T) []T) bool {
	shared := false
	spare := items[:cap(items)]
	for i := range spare {
		shared = shared || taken[&spare[i]]
		taken[&spare[i]] = true
	}
	for _, item := range items {
		shared = rooms(taken, within(item), within) || shared
	}
	return shared
}

func argsOf(t Type) []Type           { return t.Args }
func listOf(v api.Value) []api.Value { return v.List }

var none = api.Value{Kind: api.None}

func flag(n int) api.Value              { return api.Value{Kind: api.Bool, Int: n} }
func num(n int) api.Value               { return api.Value{Kind: api.Int, Int: n} }
func letters(s string) api.Value        { return api.Value{Kind: api.Text, Text: s} }
func raw(s string) api.Value            { return api.Value{Kind: api.Bytes, Text: s} }
func both(a, b api.Value) api.Value     { return api.Value{Kind: api.Pair, List: []api.Value{a, b}} }
func row(values ...api.Value) api.Value { return api.Value{Kind: api.List, List: values} }
func some(v api.Value) api.Value        { return api.Value{Kind: api.Some, List: []api.Value{v}} }

// times tells a list of n times v.
func times(n int, v api.Value) api.Value {
	l := row()
	for range n {
		l.List = append(l.List, v)
	}
	return l
}

// sameValue: are two right values one and the same?
func sameValue(a, b api.Value) bool {
	k, e := value.Compare(a, b)
	return k == 0 && e == api.OK
}

// anyOf tells a value of a type.
func anyOf(r *rand.Rand, t Type) api.Value {
	switch t.Kind {
	case api.Bool:
		return flag(r.Intn(2))
	case api.Int:
		return num(r.Int() - r.Int())
	case api.Text, api.Bytes:
		return api.Value{Kind: t.Kind, Text: strings.Repeat("\xff", r.Intn(3))}
	case api.Point:
		return value.Point(r.Int(), r.Int())
	case api.Pair:
		return both(anyOf(r, t.Args[0]), anyOf(r, t.Args[1]))
	case api.List:
		v := row()
		for range r.Intn(3) {
			v.List = append(v.List, anyOf(r, t.Args[0]))
		}
		return v
	}
	if r.Intn(3) == 0 {
		return none
	}
	return some(anyOf(r, t.Args[0]))
}

// plainHas: is a right value of a right type, as the chapter says it?
func plainHas(t Type, v api.Value) bool {
	switch t.Kind {
	case api.Some:
		return v.Kind == api.None || v.Kind == api.Some && plainHas(t.Args[0], v.List[0])
	case api.Pair:
		return v.Kind == api.Pair && plainHas(t.Args[0], v.List[0]) && plainHas(t.Args[1], v.List[1])
	case api.List:
		for _, w := range v.List {
			if !plainHas(t.Args[0], w) {
				return false
			}
		}
	}
	return v.Kind == t.Kind
}

func wantType(t *testing.T, what string, got Type, e api.Errno, want Type) {
	t.Helper()
	if e != api.OK || !same(got, want) {
		t.Errorf("%s: %v, %d; want %v", what, got, e, want)
	}
}

func wantNoType(t *testing.T, what string, got Type, e, want api.Errno) {
	t.Helper()
	if e != want || got.Kind != 0 || got.Args != nil {
		t.Errorf("%s: %v, %d; want %d", what, got, e, want)
	}
}
