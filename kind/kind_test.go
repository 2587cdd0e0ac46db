package kind

import (
	"math/rand"
	"strings"
	"testing"

	"watershed/api"
	"watershed/value"
)

// P2.1: what is right, how deep it is, and its making.
func TestRight(t *testing.T) {
	for _, r := range rights() {
		what := plainText(r)
		if e := Check(r); e != api.OK {
			t.Errorf("Check(%s): %d", what, e)
		}
		if d, e := Depth(r); d != plainDepth(r) || e != api.OK {
			t.Errorf("Depth(%s): %d, %d; want %d", what, d, e, plainDepth(r))
		}
		made, e := Make(r.Kind, r.Args...)
		wantType(t, "Make of "+what, made, e, r)
	}
}

// P2.1: what isn't right is refused by every call, wherever the fault stands, and nothing is told beside.
// P1: what stands in itself is refused too.
func TestWrong(t *testing.T) {
	for i, w := range wrongs() {
		if e := Check(w); e != api.ErrKind {
			t.Errorf("Check of wrong type %d: %d", i, e)
		}
		if d, e := Depth(w); d != 0 || e != api.ErrKind {
			t.Errorf("Depth of wrong type %d: %d, %d", i, d, e)
		}
		if s, e := Show(w); s != "" || e != api.ErrKind {
			t.Errorf("Show of wrong type %d: %q, %d", i, s, e)
		}
		made, e := Make(w.Kind, w.Args...)
		wantNoType(t, "Make of a wrong type", made, e, api.ErrKind)
		if v, e := Zero(w); v.Kind != 0 || v.List != nil || e != api.ErrKind {
			t.Errorf("Zero of wrong type %d: %v, %d", i, v, e)
		}
		if Same(w, w) || Same(w, integer) || Same(integer, w) {
			t.Errorf("Same of wrong type %d", i)
		}
		if Has(w) || Has(w, none) || Has(w, num(1)) || Has(w, row()) || Has(w, api.Value{}) {
			t.Errorf("Has of wrong type %d", i)
		}
	}
}

// P2.1: MaxKind, at it and one past it, by every way down.
func TestGreatestDepth(t *testing.T) {
	for _, deepen := range []func(Type) Type{list, option, func(a Type) Type { return pair(a, integer) }, func(a Type) Type { return pair(integer, a) }} {
		r := boolean
		for range api.MaxKind - 1 {
			r = deepen(r)
		}
		if d, e := Depth(r); d != api.MaxKind || e != api.OK {
			t.Errorf("Depth: %d, %d", d, e)
		}
		if d, e := Depth(deepen(r)); d != 0 || e != api.ErrKind {
			t.Errorf("Depth: %d, %d", d, e)
		}
		made, e := Make(api.List, r)
		wantNoType(t, "Make", made, e, api.ErrKind)
	}
}

// P2.1: kinds are made of as many Args as they have, no more and no fewer.
func TestMakeArgs(t *testing.T) {
	args := map[int]int{api.Bool: 0, api.Int: 0, api.Text: 0, api.Bytes: 0, api.Point: 0, api.Pair: 2, api.List: 1, api.Some: 1}
	for kind := -2; kind < 13; kind++ {
		for n := range 5 {
			given := make([]Type, n)
			for i := range given {
				given[i] = simple()[i]
			}
			made, e := Make(kind, given...)
			if want, known := args[kind]; known && want == n {
				wantType(t, "Make", made, e, Type{Kind: kind, Args: given})
			} else {
				wantNoType(t, "Make", made, e, api.ErrKind)
			}
		}
	}
}

// P2.1: alike are just those that have one text; nil and empty Args are one.
func TestSame(t *testing.T) {
	types := rights()
	for _, a := range types {
		for _, b := range types {
			if Same(a, twin(b)) != (plainText(a) == plainText(b)) {
				t.Errorf("Same(%s, %s): %v", plainText(a), plainText(b), Same(a, b))
			}
		}
	}
	if !Same(integer, Type{Kind: api.Int, Args: []Type{}}) {
		t.Error("nil and empty Args aren't one")
	}
}

// hasCases are values and types of any fit.
func hasCases() (types []Type, values []api.Value) {
	types = []Type{
		boolean, integer, text, octets, point, pair(integer, text), pair(text, integer), list(integer), list(option(integer)),
		list(list(boolean)), list(pair(integer, integer)), option(integer), option(text), option(option(integer)), option(list(text)), pair(option(point), list(octets)),
	}
	values = []api.Value{
		flag(0), flag(1), num(0), num(1), num(-1 << 63), letters(""), letters("a\xff"), raw(""), raw("\x00"), value.Point(0, 0), value.Point(-1, 7),
		both(num(1), letters("")), both(letters(""), num(1)), both(num(1), num(2)), both(none, row()), both(some(value.Point(1, 1)), row(raw("a"))),
		row(), row(num(1)), row(num(1), num(2)), row(num(1), letters("")), row(letters(""), num(1)), row(flag(1)), row(none), row(some(num(1)), none), row(none, some(letters(""))),
		row(row()), row(row(flag(1)), row()), row(row(), row(num(1))), row(both(num(1), num(2))), row(both(num(1), none)), times(api.MaxList, num(3)),
		none, some(none), some(num(1)), some(letters("")), some(some(num(1))), some(some(none)), some(some(letters(""))), some(row()), some(row(letters("a"), letters("b"))), some(row(letters("a"), raw("b"))),
	}
	return types, values
}

// P2.3: values are of a type, or they aren't; None and the empty list are of many.
func TestHas(t *testing.T) {
	types, values := hasCases()
	for _, ty := range types {
		for _, v := range values {
			if Has(ty, v) != plainHas(ty, v) {
				t.Errorf("Has(%s, %v): %v", plainText(ty), v, Has(ty, v))
			}
		}
	}
	for _, a := range within(2) {
		if !Has(option(a), none) || !Has(list(a), row()) || Has(a, none) != (a.Kind == api.Some) || Has(a, row()) != (a.Kind == api.List) {
			t.Errorf("None or the empty list with %s", plainText(a))
		}
	}
}

// P2.3: values come any number at once, and all must be of the type.
func TestHasMany(t *testing.T) {
	if !Has(integer) || !Has(full(api.MaxKind)) || !Has(integer, num(1), num(2), num(3)) {
		t.Error("Has: false")
	}
	many := times(1000, num(1)).List
	if !Has(integer, many...) || Has(text, many...) {
		t.Error("Has of a thousand")
	}
	for _, wrong := range []api.Value{letters("a"), none, {}, flag(2), {Kind: api.Int, Text: "a"}} {
		if Has(integer, wrong, num(1), num(2)) || Has(integer, num(1), wrong, num(2)) || Has(integer, num(1), num(2), wrong) {
			t.Errorf("Has with %v among others: true", wrong)
		}
	}
}

// P2.3: values that aren't right are of no type, however they look.
func TestHasWrongValues(t *testing.T) {
	rowOfRows := row()
	for range 40 {
		rowOfRows.List = append(rowOfRows.List, times(50, num(1)))
	}
	stands := row(none)
	stands.List[0] = stands
	for i, c := range []struct {
		t Type
		v api.Value
	}{
		{boolean, flag(2)}, {integer, api.Value{Kind: api.Int, List: []api.Value{num(1)}}}, {text, letters(strings.Repeat("a", api.MaxText+1))},
		{octets, raw(strings.Repeat("a", api.MaxText+1))}, {point, api.Value{Kind: api.Point, Point: complex(1<<20, 0)}}, {point, api.Value{Kind: api.Point, Point: 0.5}},
		{pair(integer, integer), api.Value{Kind: api.Pair}}, {pair(integer, integer), api.Value{Kind: api.Pair, List: []api.Value{num(1)}}},
		{pair(integer, integer), api.Value{Kind: api.Pair, List: []api.Value{num(1), num(2), num(3)}}},
		{list(integer), times(api.MaxList+1, num(1))}, {list(list(integer)), rowOfRows}, {list(list(list(integer))), stands},
		{option(integer), api.Value{Kind: api.None, Int: 1}}, {option(integer), api.Value{Kind: api.None, List: []api.Value{num(1)}}},
		{option(integer), api.Value{Kind: api.Some}}, {option(integer), api.Value{Kind: api.Some, List: []api.Value{num(1), num(1)}}},
		{list(option(integer)), row(some(num(1)), some(api.Value{Kind: api.Int, Text: "a"}))},
	} {
		if Has(c.t, c.v) {
			t.Errorf("Has of wrong value %d: true", i)
		}
	}
}

// P2.3: values of types of any depth, and those of other types.
func TestHasAny(t *testing.T) {
	r := rand.New(rand.NewSource(4))
	for range 2000 {
		a, b := anyType(r, api.MaxKind), anyType(r, 3)
		v, w := anyOf(r, a), anyOf(r, b)
		if value.Check(v) == api.OK && !Has(a, v) {
			t.Errorf("Has(%s, %v): false", plainText(a), v)
		}
		if Has(a, w) != plainHas(a, w) {
			t.Errorf("Has(%s, %v): %v", plainText(a), w, Has(a, w))
		}
	}
}

// P2.3: the zero of a type.
func TestZero(t *testing.T) {
	for _, c := range []struct {
		t Type
		v api.Value
	}{
		{boolean, flag(0)}, {integer, num(0)}, {text, letters("")}, {octets, raw("")}, {point, value.Point(0, 0)}, {list(integer), row()}, {list(option(integer)), row()},
		{option(integer), none}, {option(list(text)), none}, {pair(integer, text), both(num(0), letters(""))}, {pair(pair(point, boolean), option(octets)), both(both(value.Point(0, 0), flag(0)), none)},
	} {
		if v, e := Zero(c.t); e != api.OK || !sameValue(v, c.v) {
			t.Errorf("Zero(%s): %v, %d", plainText(c.t), v, e)
		}
	}
	for _, r := range rights() {
		if v, e := Zero(r); e != api.OK || !Has(r, v) {
			t.Errorf("Zero(%s): %v, %d", plainText(r), v, e)
		}
	}
	v, e := Zero(full(api.MaxKind))
	if n, _ := value.Size(v); n != 1<<api.MaxKind-1 || e != api.OK {
		t.Errorf("Zero of the greatest pair: size %d, %d", n, e)
	}
}

// P2.4: what is handed in is not changed, right or wrong, its spare room neither.
func TestUntouched(t *testing.T) {
	types := append(rights(), pair(integer, Type{Kind: api.None}), full(api.MaxKind+1), Type{Kind: api.List})
	for _, was := range types {
		a := twin(was)
		Make(a.Kind, a.Args...)
		Check(a)
		Show(a)
		Same(a, a)
		Has(a, num(1), none)
		Zero(a)
		Depth(a)
		if !untouched(a, was) {
			t.Errorf("%v was changed to %v", was, a)
		}
	}
	values := make([]api.Value, 2, 3)
	values[0], values[1] = row(num(1)), row(num(2), num(3))
	spare := values[:3]
	spare[2] = num(4711)
	Has(list(integer), values...)
	if !sameValue(row(spare...), row(row(num(1)), row(num(2), num(3)), num(4711))) {
		t.Errorf("the values were changed to %v", spare)
	}
}

// P2.4: what is told shares no memory with what was handed in, with another answer, or within itself.
func TestMemory(t *testing.T) {
	for _, r := range rights() {
		taken := map[*Type]bool{}
		args := twin(r).Args
		rooms(taken, args, argsOf)
		for range 2 {
			if made, e := Make(r.Kind, args...); e != api.OK || rooms(taken, made.Args, argsOf) {
				t.Errorf("Make of %s shares memory", plainText(r))
			}
			if parsed, _, e := Parse(plainText(r)); e != api.OK || rooms(taken, parsed.Args, argsOf) {
				t.Errorf("Parse of %s shares memory", plainText(r))
			}
		}
		values := map[*api.Value]bool{}
		for range 2 {
			if v, e := Zero(r); e != api.OK || rooms(values, v.List, listOf) {
				t.Errorf("Zero of %s shares memory", plainText(r))
			}
		}
	}
}

// P2.4: what was made stays what it is when the Args that it was made of are changed, and so when one is used twice.
func TestNotKept(t *testing.T) {
	args := []Type{list(integer)}
	made, e := Make(api.List, args...)
	args[0].Args[0] = text
	args[0] = octets
	wantType(t, "Make", made, e, list(list(integer)))
	one := list(integer)
	two, e := Make(api.Pair, one, one)
	if e != api.OK || rooms(map[*Type]bool{}, two.Args, argsOf) {
		t.Error("one Arg in two places shares memory")
	}
}
