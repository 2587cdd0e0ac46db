package combine

import (
	"fmt"
	"math/rand"
	"slices"
	"strings"
	"testing"
	"unsafe"

	"watershed/api"
	"watershed/kind"
)

// roomyComb tells c in other memory, with spare room behind all lists.
func roomyComb(c Comb) Comb {
	parts := make([]Comb, 0, len(c.Parts)+2)
	for _, p := range c.Parts {
		parts = append(parts, roomyComb(p))
	}
	spare := parts[len(parts):cap(parts)]
	for i := range spare {
		spare[i] = comb("spare")
	}
	return Comb{Name: strings.Clone(c.Name), K: c.K, Parts: parts}
}

// roomyType tells t in other memory, with spare room behind all lists.
func roomyType(t kind.Type) kind.Type {
	args := make([]kind.Type, 0, len(t.Args)+2)
	for _, a := range t.Args {
		args = append(args, roomyType(a))
	}
	spare := args[len(args):cap(args)]
	for i := range spare {
		spare[i] = kind.Type{Kind: 4711}
	}
	return kind.Type{Kind: t.Kind, Args: args}
}

// roomyValues tells values in other memory, with spare room behind all lists.
func roomyValues(values []api.Value) []api.Value {
	all := make([]api.Value, 0, len(values)+2)
	for _, v := range values {
		v.Text, v.List = strings.Clone(v.Text), roomyValues(v.List)
		all = append(all, v)
	}
	spare := all[len(all):cap(all)]
	for i := range spare {
		spare[i] = num(4711)
	}
	return all
}

// seenComb tells all that is in a combiner, its spare room too.
func seenComb(c Comb) string {
	s := fmt.Sprintf("%q %d %d", c.Name, c.K, len(c.Parts))
	for _, p := range c.Parts[:cap(c.Parts)] {
		s += "[" + seenComb(p) + "]"
	}
	return s
}

// seenType tells all that is in a type, its spare room too.
func seenType(t kind.Type) string {
	s := fmt.Sprint(t.Kind, len(t.Args))
	for _, a := range t.Args[:cap(t.Args)] {
		s += "[" + seenType(a) + "]"
	}
	return s
}

// seen tells all that is in values, their spare room too.
func seen(values []api.Value) string {
	s := fmt.Sprint(len(values))
	for _, v := range values[:cap(values)] {
		s += fmt.Sprintf("(%d %d %q %v %s)", v.Kind, v.Int, v.Text, v.Point, seen(v.List))
	}
	return s
}

// rooms gathers where the lists and texts of values lie, spare room too, and tells whether any is there already.
func rooms(taken map[unsafe.Pointer]bool, values []api.Value) bool {
	shared := false
	note := func(p unsafe.Pointer) {
		shared = shared || taken[p]
		taken[p] = true
	}
	all := values[:cap(values)]
	for i, v := range all {
		note(unsafe.Pointer(&all[i]))
		if v.Text != "" {
			note(unsafe.Pointer(unsafe.StringData(v.Text)))
		}
		shared = rooms(taken, v.List) || shared
	}
	return shared
}

// scribble writes over all that stands in the lists of values, spare room too.
func scribble(values []api.Value) {
	all := values[:cap(values)]
	for i := range all {
		scribble(all[i].List)
		all[i] = letters("scribbled")
	}
}

// rich are cases whose values have lists, texts and options in them.
func rich(r *rand.Rand) []fit {
	var all []fit
	for _, c := range combs(r, 40) {
		for _, of := range []string{"text", "list(text)", "pair(bytes,option(list(text)))", "point", "int"} {
			if _, _, taken := plainTypes(c, of); taken {
				all = append(all, fit{c, of})
			}
		}
	}
	return all
}

// P8.4: values and accumulators that are handed in stay as they were, their spare room too, right or wrong.
func TestUntouched(t *testing.T) {
	r := rand.New(rand.NewSource(12))
	for _, x := range rich(r) {
		o := work(t, x.c, x.of)
		for _, bad := range []bool{false, true} {
			values := bag(r, typeOf(x.of), 20)
			accs := []api.Value{plainAcc(x.c, values[:5]), plainAcc(x.c, values[3:]), o.Create(), plainAcc(x.c, values[7:9])}
			if bad {
				values, accs = append(values, api.Value{}), append(accs, some(api.Value{}))
			}
			values, accs = roomyValues(values), roomyValues(accs)
			before := seen(values) + seen(accs)
			o.Add(accs[1], values...)
			o.Merge(accs...)
			o.Merge(accs[:2]...)
			for _, a := range accs {
				o.Extract(a)
				o.Add(a)
				o.Add(a, values[:3]...)
			}
			if seen(values)+seen(accs) != before {
				t.Errorf("%s: what was handed in is changed", x.text())
			}
		}
	}
}

// answers are what the calls of an Op tell of accumulators and values.
func answers(o *Op, accs, values []api.Value) []api.Value {
	told := []api.Value{o.Create()}
	for _, a := range accs {
		more, _ := o.Add(a)
		all, _ := o.Add(a, values...)
		one, _ := o.Merge(a)
		out, _ := o.Extract(a)
		told = append(told, more, all, one, out)
	}
	of, _ := o.Merge()
	merged, _ := o.Merge(accs...)
	return slices.Clip(append(told, of, merged))
}

// P8.4: what is told is new memory, spare room and texts too, no two lists of it the same; what is done to it, or to what was handed in, doesn't show later.
func TestNewMemory(t *testing.T) {
	r := rand.New(rand.NewSource(13))
	for _, x := range rich(r) {
		o := work(t, x.c, x.of)
		values := roomyValues(bag(r, typeOf(x.of), 20))
		accs := roomyValues([]api.Value{plainAcc(x.c, values[:1]), plainAcc(x.c, values[1:9]), plainAcc(x.c, values[3:])})
		told, again := answers(o, accs, values), answers(o, accs, values)
		taken := map[unsafe.Pointer]bool{}
		if rooms(taken, values) || rooms(taken, accs) || rooms(taken, told) || rooms(taken, again) {
			t.Errorf("%s: memory is shared", x.text())
		}
		before, kept := seen(again), roomyValues(values)
		keptAccs := roomyValues(accs)
		scribble(told)
		if later := answers(o, accs, values); !slices.EqualFunc(later, again, same) {
			t.Errorf("%s: what was done to an answer shows", x.text())
		}
		scribble(values)
		scribble(accs)
		if seen(again) != before || !slices.EqualFunc(answers(o, keptAccs, kept), again, same) {
			t.Errorf("%s: what was done to an argument shows", x.text())
		}
	}
}

// typeRooms gathers where the Args of a type lie, spare room too, and tells whether any is there already.
func typeRooms(taken map[*kind.Type]bool, t kind.Type) bool {
	shared := false
	all := t.Args[:cap(t.Args)]
	for i, a := range all {
		shared = shared || taken[&all[i]]
		taken[&all[i]] = true
		shared = typeRooms(taken, a) || shared
	}
	return shared
}

// scribbleType writes over all Args of a type, spare room too.
func scribbleType(t kind.Type) {
	all := t.Args[:cap(t.Args)]
	for i := range all {
		scribbleType(all[i])
		all[i] = kind.Type{Kind: api.Bytes}
	}
}

// scribbleComb writes over all Parts of a combiner, spare room too.
func scribbleComb(c Comb) {
	all := c.Parts[:cap(c.Parts)]
	for i := range all {
		scribbleComb(all[i])
		all[i] = comb("mean")
	}
}

// P8.4: New neither changes nor keeps a combiner or a type; the types that are told are new memory.
func TestNewKeepsNothing(t *testing.T) {
	r := rand.New(rand.NewSource(14))
	for _, x := range cases(r, 60) {
		c, of := roomyComb(x.c), roomyType(typeOf(x.of))
		seenBefore := seenComb(c) + seenType(of)
		o, e := New(c, of)
		if s, _ := Show(c); s != plainText(x.c) || e != api.OK || seenComb(c)+seenType(of) != seenBefore {
			t.Fatalf("%s: %q, %d, or what was handed in is changed", x.text(), s, e)
		}
		acc, out := o.Types()
		accAgain, outAgain := o.Types()
		taken := map[*kind.Type]bool{}
		if typeRooms(taken, of) || typeRooms(taken, acc) || typeRooms(taken, out) || typeRooms(taken, accAgain) || typeRooms(taken, outAgain) {
			t.Errorf("%s: memory of types is shared", x.text())
		}
		scribbleComb(c)
		scribbleType(of)
		scribbleType(acc)
		scribbleType(out)
		acc, out = o.Types()
		if !kind.Same(acc, accAgain) || !kind.Same(out, outAgain) || o.Plain() != plainPlain(x.c) {
			t.Errorf("%s: what was done later shows", x.text())
		}
		values := bag(r, typeOf(x.of), 5)
		got, e := o.Add(o.Create(), values...)
		wantValue(t, x.text(), got, e, plainAcc(x.c, values))
	}
	for _, c := range []Comb{top(17), joint(top(0), comb("sum")), joint(comb("sum"), joint(comb("sum"), comb("suum"))), joint(joint(joint(comb("sum"), comb("sum")), comb("sum")), comb("sum")), {Name: "sum", Parts: []Comb{comb("sum")}}} {
		c = roomyComb(c)
		before := seenComb(c)
		Show(c)
		New(c, kind.Type{Kind: api.Int})
		if seenComb(c) != before {
			t.Errorf("a wrong combiner is changed: %s", before)
		}
	}
}

// combRooms gathers where the Parts of a combiner lie, spare room too, and tells whether any is there already.
func combRooms(taken map[*Comb]bool, c Comb) bool {
	shared := false
	all := c.Parts[:cap(c.Parts)]
	for i, p := range all {
		shared = shared || taken[&all[i]]
		taken[&all[i]] = true
		shared = combRooms(taken, p) || shared
	}
	return shared
}

// P8.4: what Parse tells is new memory: what is done to it doesn't show in what is read or told later.
func TestParseMemory(t *testing.T) {
	for _, s := range samples(rand.New(rand.NewSource(15)), 50) {
		one, _, _ := Parse(s)
		other, _, _ := Parse(s)
		taken := map[*Comb]bool{}
		if combRooms(taken, one) || combRooms(taken, other) {
			t.Errorf("%s: memory is shared", s)
		}
		scribbleComb(one)
		again, _, e := Parse(s)
		if !sameComb(again, other) || plainText(again) != s || e != api.OK {
			t.Errorf("%s: %v, %v, %d", s, other, again, e)
		}
	}
}

// P8.3, P8.4: an Op keeps nothing from call to call, and many may use it one after the other.
func TestKeepsNothing(t *testing.T) {
	r := rand.New(rand.NewSource(16))
	for _, x := range rich(r) {
		o := work(t, x.c, x.of)
		values := bag(r, typeOf(x.of), 9)
		first, _ := o.Add(o.Create(), values...)
		o.Add(first, bag(r, typeOf(x.of), 9)...)
		o.Merge(first, first)
		o.Add(first, api.Value{})
		wantValue(t, "Create, "+x.text(), o.Create(), api.OK, plainAcc(x.c, nil))
		got, e := o.Add(o.Create(), values...)
		wantValue(t, "Add, "+x.text(), got, e, plainAcc(x.c, values))
	}
}
