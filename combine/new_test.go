package combine

import (
	"math/rand"
	"testing"

	"watershed/api"
	"watershed/kind"
)

// tryNew holds New, Types and Plain of a combiner and a type against the chapter's table.
func tryNew(t *testing.T, c Comb, of string) {
	t.Helper()
	what := plainText(c) + " of " + of
	o, e := New(c, typeOf(of))
	accText, outText, taken := plainTypes(c, of)
	if !taken {
		if o != nil || e != api.ErrCombine {
			t.Errorf("New, %s: %v, %d; want ErrCombine", what, o, e)
		}
		return
	}
	if o == nil || e != api.OK {
		t.Errorf("New, %s: %v, %d", what, o, e)
		return
	}
	acc, out := o.Types()
	if !kind.Same(acc, typeOf(accText)) || !kind.Same(out, typeOf(outText)) {
		t.Errorf("Types, %s: %v, %v; want %s, %s", what, acc, out, accText, outText)
	}
	if o.Plain() != plainPlain(c) {
		t.Errorf("Plain, %s: %v", what, o.Plain())
	}
}

// P8.2: every combiner that is at most two deep, and any that are three deep, with types of all kinds and depths.
func TestNew(t *testing.T) {
	r := rand.New(rand.NewSource(3))
	all := shallow()
	for range 1000 {
		all = append(all, anyComb(r, 3))
	}
	for _, c := range all {
		for _, of := range types() {
			tryNew(t, c, of)
		}
	}
}

// P8.2: what each of the ten takes, and the types that come of it, as the chapter writes them.
func TestTypes(t *testing.T) {
	for _, x := range []struct {
		c            Comb
		of, acc, out string
		plain        bool
	}{
		{comb("count"), "text", "int", "int", true}, {comb("count"), "list(list(list(list(list(int)))))", "int", "int", true}, {comb("sum"), "int", "int", "int", true}, {comb("mean"), "int", "pair(int,int)", "int", false}, {comb("spin"), "point", "point", "point", true},
		{comb("min"), "text", "option(text)", "option(text)", true}, {comb("max"), "option(int)", "option(option(int))", "option(option(int))", true}, {comb("all"), "bytes", "list(bytes)", "list(bytes)", true}, {comb("set"), "pair(int,bool)", "list(pair(int,bool))", "list(pair(int,bool))", true}, {top(3), "point", "list(point)", "list(point)", true},
		{joint(comb("sum"), comb("count")), "int", "pair(int,int)", "pair(int,int)", true}, {joint(comb("mean"), comb("min")), "int", "pair(pair(int,int),option(int))", "pair(int,option(int))", false}, {joint(top(1), joint(comb("all"), comb("mean"))), "int", "pair(list(int),pair(list(int),pair(int,int)))", "pair(list(int),pair(list(int),int))", false},
		{joint(joint(comb("min"), comb("count")), joint(comb("spin"), comb("set"))), "point", "pair(pair(option(point),int),pair(point,list(point)))", "pair(pair(option(point),int),pair(point,list(point)))", true},
	} {
		o := work(t, x.c, x.of)
		acc, out := o.Types()
		if !kind.Same(acc, typeOf(x.acc)) || !kind.Same(out, typeOf(x.out)) || o.Plain() != x.plain {
			t.Errorf("%s of %s: %v, %v, %v", plainText(x.c), x.of, acc, out, o.Plain())
		}
	}
}

// P8.2: types that aren't taken: of other values, or so deep that what comes of them is not right.
func TestNotTaken(t *testing.T) {
	deepest, less := "list(list(list(list(list(int)))))", "list(list(list(list(int))))"
	for _, x := range []struct {
		c  Comb
		of string
	}{
		{comb("sum"), "bool"}, {comb("sum"), "point"}, {comb("sum"), "text"}, {comb("sum"), "list(int)"}, {comb("sum"), "option(int)"}, {comb("sum"), "pair(int,int)"}, {comb("mean"), "bool"}, {comb("mean"), "point"}, {comb("mean"), "pair(int,int)"}, {comb("spin"), "int"}, {comb("spin"), "pair(int,int)"}, {comb("spin"), "list(point)"},
		{joint(comb("sum"), comb("spin")), "int"}, {joint(comb("sum"), comb("spin")), "point"}, {joint(comb("count"), comb("mean")), "text"}, {joint(comb("sum"), comb("count")), "text"}, {joint(comb("count"), joint(comb("count"), comb("spin"))), "int"}, {joint(joint(comb("sum"), comb("count")), comb("count")), "bytes"},
		{comb("min"), deepest}, {comb("max"), deepest}, {comb("all"), deepest}, {comb("set"), deepest}, {top(1), deepest}, {comb("min"), "option(option(option(option(option(bool)))))"}, {comb("all"), "pair(int,list(list(list(list(int)))))"}, {joint(comb("count"), comb("min")), deepest},
		{joint(comb("all"), comb("count")), less}, {joint(comb("count"), top(2)), less}, {joint(comb("count"), joint(comb("set"), comb("count"))), "list(list(list(int)))"},
	} {
		if o, e := New(x.c, typeOf(x.of)); o != nil || e != api.ErrCombine {
			t.Errorf("New(%s, %s): %v, %d", plainText(x.c), x.of, o, e)
		}
	}
	for _, c := range []Comb{comb("min"), comb("max"), comb("all"), comb("set"), top(16)} {
		work(t, c, less)
		work(t, joint(c, comb("count")), "list(list(list(int)))")
	}
	work(t, joint(comb("count"), joint(comb("count"), comb("count"))), deepest)
}

// P8.2: what is wrong is refused in order: the combiner, then the type, then what comes of both.
func TestNewWrong(t *testing.T) {
	wrong := wrongTypes()
	for i, c := range wrongCombs() {
		for _, ty := range append([]kind.Type{{Kind: api.Int}, typeOf("list(text)")}, wrong...) {
			if o, e := New(c, ty); o != nil || e != api.ErrCombine {
				t.Errorf("New of wrong combiner %d, %v: %v, %d", i, ty.Kind, o, e)
			}
		}
	}
	for _, c := range shallow() {
		for i, ty := range wrong {
			if o, e := New(c, ty); o != nil || e != api.ErrKind {
				t.Errorf("New(%s) of wrong type %d: %v, %d", plainText(c), i, o, e)
			}
		}
	}
}
