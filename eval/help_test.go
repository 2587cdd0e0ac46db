package eval

import (
	"fmt"
	"strconv"
	"strings"
	"testing"

	"watershed/api"
	"watershed/check"
	"watershed/expr"
	"watershed/kind"
	"watershed/value"
)

// said tells the value of a text: a number, true, false, "text", 'bytes', <re im>, (a b) for a pair, [a b ..] for a list, none, !a for Some of a.
func said(s string) api.Value {
	v, rest := saidFirst(s)
	if rest != "" {
		panic(s + ": behind the value: " + rest)
	}
	return v
}

func saidFirst(s string) (api.Value, string) {
	closing := func(kindOf int, mark string) (api.Value, string) {
		v := api.Value{Kind: kindOf}
		s = s[1:]
		for !strings.HasPrefix(s, mark) {
			var w api.Value
			w, s = saidFirst(strings.TrimPrefix(s, " "))
			v.List = append(v.List, w)
		}
		return v, s[1:]
	}
	quoted := func(kindOf int) (api.Value, string) {
		end := 1 + strings.IndexByte(s[1:], s[0])
		text, err := strconv.Unquote(`"` + s[1:end] + `"`)
		if err != nil {
			panic(s)
		}
		return api.Value{Kind: kindOf, Text: text}, s[end+1:]
	}
	word := s[:len(s)-len(strings.TrimLeft(s, "-0123456789abcdefghijklmnopqrstuvwxyz"))]
	switch s[0] {
	case '(':
		return closing(api.Pair, ")")
	case '[':
		return closing(api.List, "]")
	case '<':
		v, rest := closing(api.Point, ">")
		return value.Point(v.List[0].Int, v.List[1].Int), rest
	case '"':
		return quoted(api.Text)
	case '\'':
		return quoted(api.Bytes)
	case '!':
		v, rest := saidFirst(s[1:])
		return some(v), rest
	}
	switch word {
	case "none":
		return none(), s[4:]
	case "true", "false":
		return truth(word == "true"), s[len(word):]
	}
	n, err := strconv.Atoi(word)
	if err != nil {
		panic(s)
	}
	return number(n), s[len(word):]
}

// shown tells the text of a value, as said reads it.
func shown(v api.Value) string {
	parts := make([]string, len(v.List))
	for i, w := range v.List {
		parts[i] = shown(w)
	}
	all := strings.Join(parts, " ")
	switch v.Kind {
	case api.Bool:
		return strconv.FormatBool(v.Int == 1)
	case api.Int:
		return strconv.Itoa(v.Int)
	case api.Text, api.Bytes:
		marks := map[int]string{api.Text: `"`, api.Bytes: "'"}
		s := strconv.QuoteToASCII(v.Text)
		return marks[v.Kind] + s[1:len(s)-1] + marks[v.Kind]
	case api.Point:
		return fmt.Sprintf("<%v %v>", int(real(v.Point)), int(imag(v.Point)))
	case api.Pair:
		return "(" + all + ")"
	case api.List:
		return "[" + all + "]"
	case api.None:
		return "none"
	case api.Some:
		return "!" + all
	}
	return fmt.Sprintf("no value %v", v)
}

// typeOf tells the type of a text.
func typeOf(s string) kind.Type {
	t, at, e := kind.Parse(s)
	if e != api.OK {
		panic(s[:at] + " <fault> " + s[at:])
	}
	return t
}

// envOf tells the env with these types, that of it first.
func envOf(it string, sides ...string) check.Env {
	env := check.Env{It: typeOf(it)}
	for _, s := range sides {
		env.Sides = append(env.Sides, typeOf(s))
	}
	return env
}

// term tells the term of a text.
func term(s string) expr.Node {
	n, at, e := expr.Parse(s)
	if e != api.OK {
		panic(s[:at] + " <fault> " + s[at:])
	}
	return n
}

// made tells the function of a text.
func made(t *testing.T, s string, env check.Env) *Fn {
	t.Helper()
	f, e := New(term(s), env)
	if f == nil || e != api.OK {
		t.Fatalf("New(%s): %v, %d", s, f, e)
	}
	return f
}

// given is what functions of the tests are run with: all kinds of values, as it and as sides.
type given struct {
	env   check.Env
	it    api.Value
	sides []api.Value
}

// givenOf tells what functions are run with from pairs of a type and a value, those of it first.
func givenOf(all ...string) given {
	g := given{env: check.Env{It: typeOf(all[0])}, it: said(all[1])}
	for i := 2; i < len(all); i += 2 {
		g.env.Sides = append(g.env.Sides, typeOf(all[i]))
		g.sides = append(g.sides, said(all[i+1]))
	}
	return g
}

func usual() given {
	return givenOf("int", "7",
		"text", `"abc"`, "point", "<3 -4>", "bytes", `'\x00\xff\x00'`, "pair(int,text)", `(5 "b")`, "list(point)", "[<1 2> <-1 0> <1 -2>]",
		"option(list(int))", "![4 5]", "bool", "true", "list(int)", "[3 1 2 1]", "option(int)", "none", "list(list(int))", "[[1 2] [] [1]]")
}

// run tells what a function of a text answers, as a text, and its fuel; nothing and 0, if it ends.
func (g given) run(t *testing.T, s string) (answer string, fuel int) {
	t.Helper()
	f := made(t, s, g.env)
	v, fuel, e := f.Run(g.it, g.sides...)
	switch {
	case e == api.ErrFuel:
		if !isNothing(v) || fuel != 0 {
			t.Errorf("%s: beside ErrFuel: %s, %d", s, shown(v), fuel)
		}
		return "", 0
	case e != api.OK:
		t.Fatalf("%s: %d", s, e)
	case !kind.Has(f.Type(), v):
		t.Errorf("%s: %s is not of its type", s, shown(v))
	}
	return shown(v), fuel
}

// want holds what a function answers against a value and a fuel, and against the chapter's words; nothing and 0: it ends.
func (g given) want(t *testing.T, s, answer string, fuel int) {
	t.Helper()
	got, took := g.run(t, s)
	if got != answer || took != fuel {
		t.Errorf("%s: %s, %d; want %s, %d", s, got, took, answer, fuel)
	}
	g.wantPlain(t, s)
}

// wantPlain holds what a function answers against the chapter's words.
func (g given) wantPlain(t *testing.T, s string) (answer string) {
	t.Helper()
	got, took := g.run(t, s)
	plain, fuel := plainRun(term(s), g)
	if got != plain || took != fuel {
		t.Errorf("%s with %s, %v: %s, %d; by the chapter's words %s, %d", s, shown(g.it), g.sides, got, took, plain, fuel)
	}
	return got
}

// isNothing: is nothing set?
func isNothing(v api.Value) bool {
	return v.Kind == 0 && v.Int == 0 && v.Text == "" && v.Point == 0 && len(v.List) == 0
}

// numbers tells the text of the list of so many numbers from 0 on.
func numbers(many int) string {
	all := make([]string, many)
	for i := range all {
		all[i] = strconv.Itoa(i)
	}
	return "[" + strings.Join(all, " ") + "]"
}

// times tells so many of a text, with commas between.
func times(many int, s string) string {
	return strings.TrimSuffix(strings.Repeat(s+",", many), ",")
}

// sized tells a list(list(int)) of just that size, if it is from 1 to MaxSize.
func sized(size int) api.Value {
	v := list()
	for left := size - 1; left > 0; {
		n := min(left, api.MaxList+1)
		w := list()
		for range n - 1 {
			w.List = append(w.List, number(7))
		}
		v.List = append(v.List, w)
		left -= n
	}
	return v
}
