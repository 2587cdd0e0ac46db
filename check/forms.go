package check

import (
	"slices"

	"watershed/api"
	"watershed/expr"
	"watershed/kind"
)

// form has the types that a term's Kids may have, and behind them the one that it has then.
type form []kind.Type

// In forms these stand for any types, each at all its places for one and the same.
const (
	anyA = -1
	anyB = -2
)

// choice has the types that anyA and anyB stand for, as far as they are known.
type choice struct {
	a, b kind.Type
}

// of tells a type as it is written in forms, right or not.
func of(kindOf int, args ...kind.Type) kind.Type {
	return kind.Type{Kind: kindOf, Args: args}
}

// ifRight tells what comes of types that fit.
func ifRight(t kind.Type) (kind.Type, api.Errno) {
	if kind.Check(t) != api.OK {
		return kind.Type{}, api.ErrType
	}
	return t, api.OK
}

// come tells what comes of the Kids' types by the form that these have.
func come(types []kind.Type, forms []form) (kind.Type, api.Errno) {
	for _, f := range forms {
		var c choice
		last := len(f) - 1
		if slices.EqualFunc(f[:last], types, c.fits) {
			return ifRight(c.filled(f[last]))
		}
	}
	return kind.Type{}, api.ErrType
}

// standing tells the type that something in a form stands for, if it stands for any.
func (c *choice) standing(t kind.Type) *kind.Type {
	switch t.Kind {
	case anyA:
		return &c.a
	case anyB:
		return &c.b
	}
	return nil
}

// fits: is this right type of what stands in a form? What stands for any type stands for
// the first one that it meets.
func (c *choice) fits(written, t kind.Type) bool {
	known := c.standing(written)
	if known == nil {
		return written.Kind == t.Kind && slices.EqualFunc(written.Args, t.Args, c.fits)
	}
	if known.Kind == 0 {
		*known = t
	}
	return kind.Same(*known, t)
}

// filled tells what stands in a form with the types that it stands for.
func (c *choice) filled(written kind.Type) kind.Type {
	if known := c.standing(written); known != nil {
		return *known
	}
	t := kind.Type{Kind: written.Kind}
	for _, a := range written.Args {
		t.Args = append(t.Args, c.filled(a))
	}
	return t
}

// formsOf tells the forms of a term that takes its type from no env and binds no names.
func formsOf(n expr.Node) []form {
	truth, number, text := of(api.Bool), of(api.Int), of(api.Text)
	octets, point := of(api.Bytes), of(api.Point)
	switch n.Op {
	case "int":
		return []form{{number}}
	case "text_of":
		return []form{{text}}
	case "true", "false":
		return []form{{truth}}
	case "add", "sub", "mul":
		return []form{{number, number, number}, {point, point, point}}
	case "neg":
		return []form{{number, number}, {point, point}}
	case "div", "mod":
		return []form{{number, number, number}}
	case "and", "or":
		return []form{{truth, truth, truth}}
	case "not":
		return []form{{truth, truth}}
	case "range":
		return []form{{number, of(api.List, number)}}
	case "join":
		return []form{{text, text, text}}
	case "size":
		return []form{{text, number}, {octets, number}}
	case "cut":
		return []form{{text, number, number, text}, {octets, number, number, octets}}
	case "bytes":
		return []form{{text, octets}}
	case "text":
		return []form{{octets, text}}
	case "show":
		return []form{{number, text}}
	case "point":
		return []form{{number, number, point}}
	case "re", "im":
		return []form{{point, number}}
	case "conj":
		return []form{{point, point}}
	}
	return []form{formOfAny(n)}
}

// formOfAny tells the form of a term whose type is made of any others.
func formOfAny(n expr.Node) form {
	truth, number := of(api.Bool), of(api.Int)
	a, b := of(anyA), of(anyB)
	pair, list, option := of(api.Pair, a, b), of(api.List, a), of(api.Some, a)
	switch n.Op {
	case "nil":
		return form{of(api.List, n.Type)}
	case "none":
		return form{of(api.Some, n.Type)}
	case "eq", "lt":
		return form{a, a, truth}
	case "if":
		return form{truth, a, a, a}
	case "pair":
		return form{a, b, pair}
	case "first":
		return form{pair, a}
	case "second":
		return form{pair, b}
	case "list":
		return append(slices.Repeat(form{a}, len(n.Kids)), list)
	case "cons":
		return form{a, list, list}
	case "concat":
		return form{list, list, list}
	case "len":
		return form{list, number}
	case "at":
		return form{list, number, option}
	case "sort":
		return form{list, list}
	case "some":
		return form{a, option}
	case "is_some":
		return form{option, truth}
	default: // No word but or_else is left.
		return form{option, a, a}
	}
}
