package value

import (
	"cmp"
	"math"
	"math/rand"
	"strings"
	"testing"

	"watershed/api"
)

var none = api.Value{Kind: api.None}

func boolean(n int) api.Value            { return api.Value{Kind: api.Bool, Int: n} }
func num(n int) api.Value                { return api.Value{Kind: api.Int, Int: n} }
func text(s string) api.Value            { return api.Value{Kind: api.Text, Text: s} }
func octets(s string) api.Value          { return api.Value{Kind: api.Bytes, Text: s} }
func dot(re, im float64) api.Value       { return api.Value{Kind: api.Point, Point: complex(re, im)} }
func pair(a, b api.Value) api.Value      { return api.Value{Kind: api.Pair, List: []api.Value{a, b}} }
func list(values ...api.Value) api.Value { return api.Value{Kind: api.List, List: values} }
func some(v api.Value) api.Value         { return api.Value{Kind: api.Some, List: []api.Value{v}} }

// nested stands v in so many Somes.
func nested(v api.Value, times int) api.Value {
	for range times {
		v = some(v)
	}
	return v
}

// times tells a list of n times v.
func times(n int, v api.Value) api.Value {
	l := make([]api.Value, n)
	for i := range l {
		l[i] = v
	}
	return list(l...)
}

// sized tells a right value of just that size, if it is from 66 to MaxSize and a bit more.
func sized(size int) api.Value {
	top := list()
	left := size - 1
	for left > 0 {
		n := min(left, api.MaxList+1)
		top.List = append(top.List, times(n-1, num(7)))
		left -= n
	}
	return top
}

// ring tells a value that stands in itself.
func ring() api.Value {
	l := []api.Value{none}
	l[0] = api.Value{Kind: api.Some, List: l}
	return l[0]
}

// rights are right values, the edges among them.
func rights() []api.Value {
	long := strings.Repeat("x", api.MaxText)
	return []api.Value{
		boolean(0), boolean(1), num(0), num(-1 << 63), num(1<<63 - 1), text(""), text("a\xff\x00"), text(long),
		octets(""), octets("\x00\xff"), octets(long), dot(0, 0), dot(-1<<20, 1<<20-1), dot(1<<20-1, -1<<20),
		pair(num(1), text("a")), list(), list(num(1), none, text("b")), times(api.MaxList, num(1)), none,
		some(none), some(pair(none, list())), nested(num(1), api.MaxDepth-1), nested(list(), api.MaxDepth-1), sized(api.MaxSize),
		{Kind: api.Int, Int: 1, List: []api.Value{}}, {Kind: api.List, List: []api.Value{}},
	}
}

// wrongs are values that aren't right, each by one thing.
func wrongs() []api.Value {
	one := []api.Value{num(1)}
	long := strings.Repeat("x", api.MaxText+1)
	nan, inf := math.NaN(), math.Inf(1)
	bad := []api.Value{
		{}, {Kind: -1}, {Kind: 10}, {Kind: 1 << 40}, boolean(2), boolean(-1), text(long), octets(long),
		dot(0.5, 0), dot(0, 0.5), dot(1<<20, 0), dot(0, 1<<20), dot(-1<<20-1, 0), dot(0, -1<<20-1),
		dot(nan, 0), dot(0, nan), dot(inf, 0), dot(0, -inf), dot(1e300, 0), dot(0, -1e300), dot(1<<20-0.5, 0),
		{Kind: api.Pair}, {Kind: api.Pair, List: one}, {Kind: api.Pair, List: []api.Value{none, none, none}},
		times(api.MaxList+1, num(1)), {Kind: api.Some}, {Kind: api.Some, List: []api.Value{none, none}},
		nested(num(1), api.MaxDepth), nested(list(), api.MaxDepth), sized(api.MaxSize + 1),
		some(api.Value{}), list(num(1), boolean(3)), pair(none, list(list(text(long)))),
	}
	for kind := api.Bool; kind <= api.Some; kind++ {
		bad = append(bad, spoiled(right(kind))...)
	}
	return bad
}

// right tells a plain right value of a kind.
func right(kind int) api.Value {
	v := api.Value{Kind: kind}
	switch kind {
	case api.Pair:
		v.List = []api.Value{num(1), num(2)}
	case api.Some:
		v.List = []api.Value{num(1)}
	}
	return v
}

// spoiled tells v with each of the fields set that its kind doesn't name.
func spoiled(v api.Value) []api.Value {
	var bad []api.Value
	if v.Kind != api.Bool && v.Kind != api.Int {
		w := v
		w.Int = -1
		bad = append(bad, w)
	}
	if v.Kind != api.Text && v.Kind != api.Bytes {
		w := v
		w.Text = "\x00"
		bad = append(bad, w)
	}
	if v.Kind != api.Point {
		for _, c := range []complex128{1, 1i, complex(math.NaN(), 0), complex(0, math.NaN())} {
			w := v
			w.Point = c
			bad = append(bad, w)
		}
	}
	if v.Kind != api.Pair && v.Kind != api.List && v.Kind != api.Some {
		w := v
		w.List = []api.Value{none}
		bad = append(bad, w)
	}
	return bad
}

// anyValue tells a right value made of few numbers, so that two are often alike in part.
func anyValue(r *rand.Rand, depth int) api.Value {
	kind := api.Bool + r.Intn(9)
	if depth == 1 && (kind == api.Pair || kind == api.Some) {
		kind = api.None
	}
	switch kind {
	case api.Bool:
		return boolean(r.Intn(2))
	case api.Int:
		return num(r.Intn(3) - 1)
	case api.Text:
		return text("abab"[:r.Intn(5)])
	case api.Bytes:
		return octets("\x00\xff\x00\xff"[r.Intn(5):])
	case api.Point:
		return dot(float64(r.Intn(2)), float64(r.Intn(3)-1))
	case api.Pair:
		return pair(anyValue(r, depth-1), anyValue(r, depth-1))
	case api.Some:
		return some(anyValue(r, depth-1))
	case api.List:
		v := list()
		for n := r.Intn(4); depth > 1 && n > 0; n-- {
			v.List = append(v.List, anyValue(r, depth-1))
		}
		return v
	}
	return none
}

// anyValues tells so many of them, the same ones each time.
func anyValues(n int) []api.Value {
	r := rand.New(rand.NewSource(1))
	values := make([]api.Value, n)
	for i := range values {
		values[i] = anyValue(r, 4)
	}
	return values
}

// same: are they one and the same, seen by plain recursion? What is no number is the same as itself.
func same(a, b api.Value) bool {
	if a.Kind != b.Kind || a.Int != b.Int || a.Text != b.Text || len(a.List) != len(b.List) {
		return false
	}
	if cmp.Compare(real(a.Point), real(b.Point)) != 0 || cmp.Compare(imag(a.Point), imag(b.Point)) != 0 {
		return false
	}
	for i := range a.List {
		if !same(a.List[i], b.List[i]) {
			return false
		}
	}
	return true
}

// twin tells v in other memory, whether it is right or not; spare room stands behind every list.
func twin(v api.Value) api.Value {
	if v.List == nil {
		return v
	}
	l := make([]api.Value, len(v.List), len(v.List)+2)
	for i := range v.List {
		l[i] = twin(v.List[i])
	}
	spare := l[:cap(l)]
	for i := len(l); i < len(spare); i++ {
		spare[i] = num(4711)
	}
	v.List = l
	return v
}

// untouched: is v what its twin was, and its spare room too?
func untouched(v, was api.Value) bool {
	if !same(v, was) {
		return false
	}
	spare := v.List[:cap(v.List)]
	for i := len(v.List); i < len(spare); i++ {
		if !same(spare[i], num(4711)) {
			return false
		}
	}
	for i := range v.List {
		if !untouched(v.List[i], was.List[i]) {
			return false
		}
	}
	return true
}

// rooms gathers where the lists of v lie, spare room too, and tells whether any is there already.
func rooms(taken map[*api.Value]bool, values []api.Value) bool {
	shared := false
	spare := values[:cap(values)]
	for i := range spare {
		shared = shared || taken[&spare[i]]
		taken[&spare[i]] = true
	}
	for _, v := range values {
		shared = rooms(taken, v.List) || shared
	}
	return shared
}

func wantValue(t *testing.T, what string, got api.Value, e api.Errno, want api.Value) {
	t.Helper()
	if e != api.OK || !same(got, want) {
		t.Errorf("%s: %v, %d; want %v", what, got, e, want)
	}
}

func wantRefused(t *testing.T, what string, got api.Value, e api.Errno) {
	t.Helper()
	if e != api.ErrValue || got.List != nil || !same(got, api.Value{}) {
		t.Errorf("%s: %v, %d; want ErrValue", what, got, e)
	}
}
