package check

import (
	"regexp"
	"slices"
	"strings"

	"watershed/api"
	"watershed/expr"
	"watershed/kind"
)

// rules are the chapter's, set down as texts: the types of what stands behind a word, and that of the term.
const rules = `
	add sub mul: int int int
	add sub mul: point point point
	neg: int int
	neg: point point
	div mod: int int int
	eq lt: a a bool
	and or: bool bool bool
	not: bool bool
	if: bool a a a
	pair: a b pair(a,b)
	first: pair(a,b) a
	second: pair(a,b) b
	cons: a list(a) list(a)
	concat: list(a) list(a) list(a)
	len: list(a) int
	at: list(a) int option(a)
	sort: list(a) list(a)
	range: int list(int)
	some: a option(a)
	is_some: option(a) bool
	or_else: option(a) a a
	join: text text text
	size: text int
	size: bytes int
	cut: text int int text
	cut: bytes int int bytes
	bytes: text bytes
	text: bytes text
	show: int text
	point: int int point
	re im: point int
	conj: point point
	map: list(a) b list(b)
	filter: list(a) bool list(a)
	fold: list(a) b b b
`

// ways are the rules of each word.
var ways = func() map[string][][]string {
	all := map[string][][]string{}
	for _, line := range strings.Split(strings.TrimSpace(rules), "\n") {
		words, types, _ := strings.Cut(line, ":")
		for _, w := range strings.Fields(words) {
			all[w] = append(all[w], strings.Fields(types))
		}
	}
	all["list"] = [][]string{}
	for n := 1; n <= 64; n++ {
		all["list"] = append(all["list"], append(slices.Repeat([]string{"a"}, n), "list(a)"))
	}
	return all
}()

var anyType = regexp.MustCompile(`\b[ab]\b`)

// parts adds the texts of a type and of all that it is made of.
func parts(t kind.Type, all []string) []string {
	all = append(all, typeText(t))
	for _, a := range t.Args {
		all = parts(a, all)
	}
	return all
}

// plainRule tells what comes of these types by a word, as a text: a and b are whatever fits, out of all that the types are made of.
func plainRule(word string, types []string) (string, api.Errno) {
	all := []string{"int"}
	for _, s := range types {
		all = parts(typeOf(s), all)
	}
	slices.Sort(all)
	all = slices.Compact(all)
	for _, way := range ways[word] {
		if len(way) != len(types)+1 {
			continue
		}
		bs := all
		if !slices.ContainsFunc(way, func(s string) bool { return slices.Contains(anyType.FindAllString(s, -1), "b") }) {
			bs = []string{"int"}
		}
		for _, a := range all {
			for _, b := range bs {
				filled := make([]string, len(way))
				for i, s := range way {
					filled[i] = anyType.ReplaceAllStringFunc(s, func(x string) string { return map[string]string{"a": a, "b": b}[x] })
				}
				if slices.Equal(filled[:len(types)], types) {
					return plainRight(filled[len(types)])
				}
			}
		}
	}
	return "", api.ErrType
}

// plainRight tells a type's text, if it is a right one's.
func plainRight(s string) (string, api.Errno) {
	if _, _, e := kind.Parse(s); e != api.OK {
		return "", api.ErrType
	}
	return s, api.OK
}

// plainInfer tells the type of a right term by the chapter's words. The names are pairs of one and its type.
func plainInfer(n expr.Node, env Env, names [][2]string) (typ string, at []int, e api.Errno) {
	kid := func(i int, more ...[2]string) bool {
		typ, at, e = plainInfer(n.Kids[i], env, slices.Concat(more, names))
		at = append([]int{i}, at...)
		return e == api.OK
	}
	tell := func(s string, e api.Errno) (string, []int, api.Errno) { return s, nil, e }
	isList := func(s string) bool { return strings.HasPrefix(s, "list(") }
	inList := func(s string) string { return s[len("list(") : len(s)-1] }
	switch n.Op {
	case "int":
		return "int", nil, api.OK
	case "text_of":
		return "text", nil, api.OK
	case "true", "false":
		return "bool", nil, api.OK
	case "it":
		return typeText(env.It), nil, api.OK
	case "side":
		if n.Int >= len(env.Sides) {
			return "", nil, api.ErrSide
		}
		return typeText(env.Sides[n.Int]), nil, api.OK
	case "nil":
		return tell(plainRight("list(" + typeText(n.Type) + ")"))
	case "none":
		return tell(plainRight("option(" + typeText(n.Type) + ")"))
	case "name":
		for _, b := range names {
			if b[0] == n.Text {
				return b[1], nil, api.OK
			}
		}
		return "", nil, api.ErrName
	case "let":
		if kid(1) && kid(2, [2]string{n.Kids[0].Text, typ}) {
			return typ, nil, api.OK
		}
		return typ, at, e
	case "map", "filter":
		if !kid(0) {
			return typ, at, e
		}
		l := typ
		if !isList(l) {
			return "", nil, api.ErrType
		}
		if !kid(2, [2]string{n.Kids[1].Text, inList(l)}) {
			return typ, at, e
		}
		return tell(plainRule(n.Op, []string{l, typ}))
	case "fold":
		if !kid(0) {
			return typ, at, e
		}
		l := typ
		if !kid(1) {
			return typ, at, e
		}
		d := typ
		if !isList(l) {
			return "", nil, api.ErrType
		}
		if !kid(4, [2]string{n.Kids[3].Text, inList(l)}, [2]string{n.Kids[2].Text, d}) {
			return typ, at, e
		}
		return tell(plainRule("fold", []string{l, d, typ}))
	}
	types := []string{}
	for i := range n.Kids {
		if !kid(i) {
			return typ, at, e
		}
		types = append(types, typ)
	}
	return tell(plainRule(n.Op, types))
}
