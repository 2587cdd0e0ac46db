package eval

import (
	"slices"
	"strconv"

	"watershed/api"
	"watershed/expr"
	"watershed/value"
)

// come tells what comes of the values of a term's Kids, all of which are evaluated.
func come(n expr.Node, kids []api.Value) api.Value {
	switch n.Op {
	case "int":
		return number(n.Int)
	case "text_of":
		return letters(api.Text, n.Text)
	case "true", "false":
		return truth(n.Op == "true")
	case "nil":
		return list()
	case "none":
		return none()
	case "list":
		return list(kids...)
	case "cut":
		return cut(kids[0], kids[1].Int, kids[2].Int)
	}
	if len(kids) == 1 {
		return comeOfOne(n.Op, kids[0])
	}
	return comeOfTwo(n.Op, kids[0], kids[1])
}

func comeOfOne(word string, a api.Value) api.Value {
	switch word {
	case "neg":
		return negative(a)
	case "not":
		return truth(!isTrue(a))
	case "first":
		return a.List[0]
	case "second":
		return a.List[1]
	case "len":
		return number(len(a.List))
	case "sort":
		sorted, _ := value.Sort(a.List...)
		return list(sorted...)
	case "some":
		return some(a)
	case "is_some":
		return truth(a.Kind == api.Some)
	case "size":
		return number(len(a.Text))
	case "bytes":
		return letters(api.Bytes, a.Text)
	case "text":
		return letters(api.Text, a.Text)
	case "show":
		return letters(api.Text, strconv.Itoa(a.Int))
	case "re":
		re, _, _ := value.Parts(a)
		return number(re)
	case "im":
		_, im, _ := value.Parts(a)
		return number(im)
	case "conj":
		other, _ := value.Conj(a)
		return other
	default: // No word but range is left.
		return counted(a.Int)
	}
}

func comeOfTwo(word string, a, b api.Value) api.Value {
	switch word {
	case "add":
		return sum(a, b)
	case "sub":
		return sum(a, negative(b))
	case "mul":
		return product(a, b)
	case "div":
		times, _ := divided(a.Int, b.Int)
		return number(times)
	case "mod":
		_, left := divided(a.Int, b.Int)
		return number(left)
	case "eq":
		return truth(order(a, b) == 0)
	case "lt":
		return truth(order(a, b) < 0)
	case "and":
		return truth(isTrue(a) && isTrue(b))
	case "or":
		return truth(isTrue(a) || isTrue(b))
	case "pair":
		return api.Value{Kind: api.Pair, List: []api.Value{a, b}}
	case "cons":
		return list(slices.Concat([]api.Value{a}, b.List)...)
	case "concat":
		return list(slices.Concat(a.List, b.List)...)
	case "at":
		return at(a.List, b.Int)
	case "or_else":
		if a.Kind == api.Some {
			return a.List[0]
		}
		return b
	case "join":
		return letters(api.Text, a.Text+b.Text)
	default: // No word but point is left.
		return value.Point(a.Int, b.Int)
	}
}

func number(n int) api.Value { return api.Value{Kind: api.Int, Int: n} }

func truth(holds bool) api.Value {
	if holds {
		return api.Value{Kind: api.Bool, Int: 1}
	}
	return api.Value{Kind: api.Bool}
}

func isTrue(v api.Value) bool { return v.Int == 1 }

// letters tells a text or bytes, cut if they are too long.
func letters(kindOf int, s string) api.Value {
	return api.Value{Kind: kindOf, Text: s[:min(len(s), api.MaxText)]}
}

// list tells a list, cut if it is too long.
func list(values ...api.Value) api.Value {
	return api.Value{Kind: api.List, List: values[:min(len(values), api.MaxList)]}
}

func none() api.Value { return api.Value{Kind: api.None} }

func some(v api.Value) api.Value {
	return api.Value{Kind: api.Some, List: []api.Value{v}}
}

func negative(a api.Value) api.Value {
	if a.Kind == api.Point {
		re, im, _ := value.Parts(a)
		return value.Point(-re, -im)
	}
	return number(-a.Int)
}

func sum(a, b api.Value) api.Value {
	if a.Kind == api.Point {
		p, _ := value.Plus(a, b)
		return p
	}
	return number(a.Int + b.Int)
}

func product(a, b api.Value) api.Value {
	if a.Kind == api.Point {
		p, _ := value.Times(a, b)
		return p
	}
	return number(a.Int * b.Int)
}

// divided tells how often b is in a, cut towards 0, and what is left then; both are 0, if b is.
func divided(a, b int) (times, left int) {
	if b == 0 {
		return 0, 0
	}
	return a / b, a % b
}

func order(a, b api.Value) int {
	less, _ := value.Compare(a, b)
	return less
}

// at tells the value at a place of a list, if there is one.
func at(values []api.Value, place int) api.Value {
	if place < 0 || place >= len(values) {
		return none()
	}
	return some(values[place])
}

// counted tells the ints from 0 on, as many as a list may have at the most.
func counted(many int) api.Value {
	var numbers []api.Value
	for i := range min(many, api.MaxList) {
		numbers = append(numbers, number(i))
	}
	return list(numbers...)
}

// cut tells the bytes of a text or of bytes from a place on and ahead of another one.
func cut(v api.Value, from, to int) api.Value {
	from, to = max(from, 0), min(to, len(v.Text))
	if from >= to {
		return letters(v.Kind, "")
	}
	return letters(v.Kind, v.Text[from:to])
}
