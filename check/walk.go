package check

import (
	"slices"

	"watershed/api"
	"watershed/expr"
	"watershed/kind"
)

// binding is a name and the type with which it is bound.
type binding struct {
	name string
	with kind.Type
}

// walk goes through a right term. Where that has a fault, it stays at the fault's place.
type walk struct {
	env   Env
	names []binding // the innermost one last
	at    []int
}

// infer tells the type of the term at the walk's place.
func (w *walk) infer(n expr.Node) (kind.Type, api.Errno) {
	switch n.Op {
	case "it":
		return w.env.It, api.OK
	case "side":
		return w.side(n.Int)
	case "name":
		return w.name(n.Text)
	case "let":
		return w.let(n)
	case "map", "filter":
		return w.each(n)
	case "fold":
		return w.fold(n)
	}
	types, e := w.kids(n, len(n.Kids))
	if e != api.OK {
		return kind.Type{}, e
	}
	return come(types, formsOf(n))
}

// kid tells the type of a Kid.
func (w *walk) kid(n expr.Node, place int) (kind.Type, api.Errno) {
	w.at = append(w.at, place)
	t, e := w.infer(n.Kids[place])
	if e == api.OK {
		w.at = w.at[:len(w.at)-1]
	}
	return t, e
}

// kids tells the types of so many Kids, the first ones.
func (w *walk) kids(n expr.Node, many int) ([]kind.Type, api.Errno) {
	types := make([]kind.Type, many)
	for i := range types {
		t, e := w.kid(n, i)
		if e != api.OK {
			return nil, e
		}
		types[i] = t
	}
	return types, api.OK
}

// within tells the type of the last Kid, where all names of a term are bound.
func (w *walk) within(n expr.Node, names ...binding) (kind.Type, api.Errno) {
	outer := w.names
	w.names = slices.Concat(outer, names)
	t, e := w.kid(n, len(n.Kids)-1)
	w.names = outer
	return t, e
}

func (w *walk) side(place int) (kind.Type, api.Errno) {
	if place >= len(w.env.Sides) {
		return kind.Type{}, api.ErrSide
	}
	return w.env.Sides[place], api.OK
}

func (w *walk) name(called string) (kind.Type, api.Errno) {
	b, found := lastOf(w.names, func(b binding) bool { return b.name == called })
	if !found {
		return kind.Type{}, api.ErrName
	}
	return b.with, api.OK
}

func (w *walk) let(n expr.Node) (kind.Type, api.Errno) {
	d, e := w.kid(n, 1)
	if e != api.OK {
		return kind.Type{}, e
	}
	return w.within(n, binding{n.Kids[0].Text, d})
}

// each tells the type of a map or a filter. What is no list is a fault ahead of those in
// the last Kid: without the type of a list's values nothing is known of the name there.
func (w *walk) each(n expr.Node) (kind.Type, api.Errno) {
	list, e := w.kid(n, 0)
	if e != api.OK {
		return kind.Type{}, e
	}
	if list.Kind != api.List {
		return kind.Type{}, api.ErrType
	}
	t, e := w.within(n, binding{n.Kids[1].Text, list.Args[0]})
	if e != api.OK {
		return kind.Type{}, e
	}
	if n.Op == "map" {
		return ifRight(of(api.List, t))
	}
	if t.Kind != api.Bool {
		return kind.Type{}, api.ErrType
	}
	return list, api.OK
}

func (w *walk) fold(n expr.Node) (kind.Type, api.Errno) {
	types, e := w.kids(n, 2)
	if e != api.OK {
		return kind.Type{}, e
	}
	list, d := types[0], types[1]
	if list.Kind != api.List {
		return kind.Type{}, api.ErrType
	}
	t, e := w.within(n, binding{n.Kids[2].Text, d}, binding{n.Kids[3].Text, list.Args[0]})
	if e != api.OK {
		return kind.Type{}, e
	}
	if !kind.Same(t, d) {
		return kind.Type{}, api.ErrType
	}
	return d, api.OK
}

// lastOf tells the last one of the names that is looked for.
func lastOf(names []binding, isLookedFor func(binding) bool) (binding, bool) {
	for _, b := range slices.Backward(names) {
		if isLookedFor(b) {
			return b, true
		}
	}
	return binding{}, false
}
