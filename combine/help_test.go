package combine

import (
	"math/rand"
	"slices"
	"strings"
	"testing"

	"watershed/api"
	"watershed/kind"
	"watershed/value"
)

const (
	least = -1 << 63
	most  = 1<<63 - 1
)

var none = api.Value{Kind: api.None}

func flag(n int) api.Value              { return api.Value{Kind: api.Bool, Int: n} }
func num(n int) api.Value               { return api.Value{Kind: api.Int, Int: n} }
func letters(s string) api.Value        { return api.Value{Kind: api.Text, Text: s} }
func raw(s string) api.Value            { return api.Value{Kind: api.Bytes, Text: s} }
func two(a, b api.Value) api.Value      { return api.Value{Kind: api.Pair, List: []api.Value{a, b}} }
func row(values ...api.Value) api.Value { return api.Value{Kind: api.List, List: values} }
func some(v api.Value) api.Value        { return api.Value{Kind: api.Some, List: []api.Value{v}} }

// nums are ints as values.
func nums(numbers ...int) []api.Value {
	var all []api.Value
	for _, n := range numbers {
		all = append(all, num(n))
	}
	return all
}

// times are n times v.
func times(n int, v api.Value) []api.Value {
	return slices.Repeat([]api.Value{v}, n)
}

// sized is a list of ints of just that size, the last of them n.
func sized(size, n int) api.Value {
	return row(append(times(size-2, num(7)), num(n))...)
}

func comb(name string) Comb { return Comb{Name: name} }
func top(k int) Comb        { return Comb{Name: "top", K: k} }
func joint(a, b Comb) Comb  { return Comb{Name: "both", Parts: []Comb{a, b}} }
func names() []string       { return strings.Fields("count sum mean spin min max all set") }
func typeOf(s string) kind.Type {
	t, _, e := kind.Parse(s)
	if e != api.OK {
		panic(s)
	}
	return t
}

// singles are all right combiners that aren't both of two.
func singles() []Comb {
	var all []Comb
	for _, n := range names() {
		all = append(all, comb(n))
	}
	for k := range 16 {
		all = append(all, top(k+1))
	}
	return all
}

// shallow are all right combiners that are at most two deep.
func shallow() []Comb {
	all := singles()
	for _, a := range singles() {
		for _, b := range singles() {
			all = append(all, joint(a, b))
		}
	}
	return all
}

// anyComb tells a right combiner that is at most so deep.
func anyComb(r *rand.Rand, depth int) Comb {
	if depth > 1 && r.Intn(4) > 0 {
		return joint(anyComb(r, depth-1), anyComb(r, depth-1))
	}
	if r.Intn(3) == 0 {
		return top(1 + r.Intn(16))
	}
	return comb(names()[r.Intn(8)])
}

// combs are right combiners: each that is one deep, and any others.
func combs(r *rand.Rand, others int) []Comb {
	all := singles()
	for range others {
		all = append(all, anyComb(r, 2), anyComb(r, 3))
	}
	return all
}

// wrongCombs are combiners that aren't right, each by one thing.
func wrongCombs() []Comb {
	ring := []Comb{comb("sum"), comb("sum")}
	ring[1] = Comb{Name: "both", Parts: ring}
	sum := comb("sum")
	deep := joint(joint(joint(sum, sum), sum), sum)
	bad := []Comb{
		{}, comb("top"), comb("both"), top(0), top(17), top(-1), top(most), top(least), top(1 << 32), top(1<<32 + 1), {K: 1}, {Parts: []Comb{sum, sum}},
		{Name: "top", K: 3, Parts: []Comb{sum}}, {Name: "top", K: 3, Parts: []Comb{sum, sum}}, {Name: "top", Parts: []Comb{sum, sum}}, {Name: "both", K: 1, Parts: []Comb{sum, sum}}, {Name: "both", K: -1, Parts: []Comb{sum, sum}},
		{Name: "both", Parts: []Comb{sum}}, {Name: "both", Parts: []Comb{sum, sum, sum}}, {Name: "both", Parts: make([]Comb, 1<<16)}, {Name: "both", Parts: ring}, ring[1], deep, joint(sum, joint(sum, joint(sum, sum))), joint(joint(sum, joint(sum, sum)), sum),
	}
	for _, s := range []string{"Sum", "SUM", "su", "sums", " sum", "sum ", "sum\x00", "\x00", "s", "mea", "means", "average", "first", "last", "top(3)", "tops", "to", "both(sum,sum)", "bot", "bothe", "min(", "count()", "spın", strings.Repeat("all", 1<<16)} {
		bad = append(bad, comb(s), Comb{Name: s, K: 3}, Comb{Name: s, Parts: []Comb{sum, sum}})
	}
	for _, s := range names() {
		bad = append(bad, Comb{Name: s, K: 1}, Comb{Name: s, K: -1}, Comb{Name: s, Parts: []Comb{sum}}, Comb{Name: s, Parts: []Comb{sum, sum}}, Comb{Name: s, Parts: []Comb{{}}})
	}
	for _, c := range slices.Clone(bad) {
		bad = append(bad, joint(c, sum), joint(sum, c), joint(sum, joint(c, sum)), joint(joint(sum, c), sum))
	}
	return bad
}

// types are texts of right types: all kinds, and lists and pairs as deep as may be and less so.
func types() []string {
	return []string{
		"bool", "int", "text", "bytes", "point", "pair(int,text)", "pair(bool,option(int))", "list(int)", "list(list(bool))", "option(int)", "option(option(bool))", "option(list(point))", "list(pair(int,int))", "list(option(bytes))",
		"list(list(list(int)))", "list(list(list(list(int))))", "option(option(option(option(text))))", "pair(int,list(list(list(int))))", "list(list(list(list(list(int)))))", "option(option(option(option(option(bool)))))", "pair(list(list(list(list(int)))),int)",
	}
}

// wrongTypes are types that aren't right.
func wrongTypes() []kind.Type {
	whole := kind.Type{Kind: api.Int}
	deep, ring := whole, []kind.Type{whole}
	for range api.MaxKind {
		deep = kind.Type{Kind: api.List, Args: []kind.Type{deep}}
	}
	ring[0] = kind.Type{Kind: api.Some, Args: ring}
	return []kind.Type{
		{}, {Kind: -1}, {Kind: api.None}, {Kind: api.Some + 1}, {Kind: api.Pair}, {Kind: api.List}, {Kind: api.Some}, {Kind: api.Int, Args: ring}, {Kind: api.Point, Args: []kind.Type{whole}},
		{Kind: api.Pair, Args: []kind.Type{whole}}, {Kind: api.Pair, Args: []kind.Type{whole, whole, whole}}, {Kind: api.List, Args: []kind.Type{{}}}, deep, ring[0],
	}
}

// anyOf tells a value of a type, made of few parts, so that two are often alike; many lists are about as great as those that are kept at most.
func anyOf(r *rand.Rand, t kind.Type) api.Value {
	v := api.Value{Kind: t.Kind}
	switch t.Kind {
	case api.Bool:
		v.Int = r.Intn(2)
	case api.Int:
		v.Int = []int{least, least + 1, -3, -1, 0, 1, 2, 3, most - 1, most, r.Intn(40), r.Intn(40), r.Int() - r.Int()}[r.Intn(13)]
	case api.Text, api.Bytes:
		v.Text = []string{"", "\x00", "a", "ab", "b", "\xff", "a\x00", strings.Repeat("c", api.MaxText)}[r.Intn(8)]
	case api.Point:
		v = value.Point(r.Intn(1<<r.Intn(22))-r.Intn(1<<20), r.Intn(3)-1)
	case api.Pair:
		v.List = []api.Value{anyOf(r, t.Args[0]), anyOf(r, t.Args[1])}
	case api.List:
		many := r.Intn(4)
		if depth, _ := kind.Depth(t); depth < 4 && r.Intn(3) == 0 {
			many = 13 + r.Intn(5)
		}
		for range many {
			v.List = append(v.List, anyOf(r, t.Args[0]))
		}
	case api.Some:
		if v.List = []api.Value{anyOf(r, t.Args[0])}; r.Intn(3) == 0 {
			v = none
		}
	}
	return v
}

// bag are so many values of a type.
func bag(r *rand.Rand, t kind.Type, many int) []api.Value {
	var all []api.Value
	for range many {
		all = append(all, anyOf(r, t))
	}
	return all
}

// same: are they one and the same, seen by plain recursion?
func same(a, b api.Value) bool {
	return a.Kind == b.Kind && a.Int == b.Int && a.Text == b.Text && a.Point == b.Point && slices.EqualFunc(a.List, b.List, same)
}

// sameComb: are they one and the same, right or not?
func sameComb(a, b Comb) bool {
	return a.Name == b.Name && a.K == b.K && slices.EqualFunc(a.Parts, b.Parts, sameComb)
}

// work tells the Op of a combiner that takes a type.
func work(t *testing.T, c Comb, of string) *Op {
	t.Helper()
	o, e := New(c, typeOf(of))
	if o == nil || e != api.OK {
		t.Fatalf("New(%s, %s): %v, %d", plainText(c), of, o, e)
	}
	return o
}

func wantValue(t *testing.T, what string, got api.Value, e api.Errno, want api.Value) {
	t.Helper()
	if e != api.OK || !same(got, want) {
		t.Errorf("%s: %v, %d; want %v", what, got, e, want)
	}
}

func wantRefused(t *testing.T, what string, got api.Value, e api.Errno) {
	t.Helper()
	if e != api.ErrValue || got.List != nil || !same(got, api.Value{}) {
		t.Errorf("%s: %v, %d; want ErrValue", what, got, e)
	}
}
