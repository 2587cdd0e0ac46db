package eval

import (
	"slices"

	"watershed/api"
	"watershed/expr"
	"watershed/value"
)

// binding is a name and the value that it is bound to.
type binding struct {
	name string
	to   api.Value
}

// run is one run of a function, whose term has a type.
type run struct {
	it    api.Value
	sides []api.Value
	names []binding // the innermost one last
	fuel  int       // how much was taken
}

// eval tells the value of a term in which these names are bound. Of if and let it goes on
// with the one Kid that is left then, whose value is theirs.
func (r *run) eval(n expr.Node, names ...binding) (api.Value, api.Errno) {
	defer r.letGo(len(r.names))
	r.bind(names...)
again:
	if r.fuel == api.MaxFuel {
		return api.Value{}, api.ErrFuel
	}
	r.fuel++
	switch n.Op {
	case "it":
		return r.it, api.OK
	case "side":
		return r.sides[n.Int], api.OK
	case "name":
		return r.named(n.Text), api.OK
	case "if":
		condition, e := r.eval(n.Kids[0])
		if e != api.OK {
			return api.Value{}, e
		}
		if isTrue(condition) {
			n = n.Kids[1]
		} else {
			n = n.Kids[2]
		}
		goto again
	case "let":
		d, e := r.eval(n.Kids[1])
		if e != api.OK {
			return api.Value{}, e
		}
		r.bind(binding{n.Kids[0].Text, d})
		n = n.Kids[2]
		goto again
	case "map":
		return r.mapped(n)
	case "filter":
		return r.filtered(n)
	case "fold":
		return r.folded(n)
	}
	kids, e := r.kids(n.Kids)
	if e != api.OK {
		return api.Value{}, e
	}
	return ifFits(come(n, kids))
}

// kids tells the values of terms, from left to right.
func (r *run) kids(terms []expr.Node) ([]api.Value, api.Errno) {
	values := make([]api.Value, len(terms))
	for i, n := range terms {
		v, e := r.eval(n)
		if e != api.OK {
			return nil, e
		}
		values[i] = v
	}
	return values, api.OK
}

// bind binds names, the last one as the innermost.
func (r *run) bind(names ...binding) {
	r.names = append(r.names, names...)
}

// letGo lets go of all names but the outermost ones, so many.
func (r *run) letGo(outer int) {
	r.names = r.names[:outer]
}

// named tells what a name is bound to, by the innermost that binds it.
func (r *run) named(name string) api.Value {
	for _, b := range slices.Backward(r.names) {
		if b.name == name {
			return b.to
		}
	}
	return api.Value{} // A term that has a type has no name that isn't bound.
}

// each tells the values of the list that a map or a filter goes through, and what its last
// Kid answers to each of them.
func (r *run) each(n expr.Node) (values, answers []api.Value, e api.Errno) {
	through, e := r.eval(n.Kids[0])
	if e != api.OK {
		return nil, nil, e
	}
	for _, v := range through.List {
		answer, e := r.eval(n.Kids[2], binding{n.Kids[1].Text, v})
		if e != api.OK {
			return nil, nil, e
		}
		answers = append(answers, answer)
	}
	return through.List, answers, api.OK
}

func (r *run) mapped(n expr.Node) (api.Value, api.Errno) {
	_, answers, e := r.each(n)
	if e != api.OK {
		return api.Value{}, e
	}
	return ifFits(list(answers...))
}

func (r *run) filtered(n expr.Node) (api.Value, api.Errno) {
	values, answers, e := r.each(n)
	if e != api.OK {
		return api.Value{}, e
	}
	var kept []api.Value
	for i, v := range values {
		if isTrue(answers[i]) {
			kept = append(kept, v)
		}
	}
	return list(kept...), api.OK
}

func (r *run) folded(n expr.Node) (api.Value, api.Errno) {
	kids, e := r.kids(n.Kids[:2])
	if e != api.OK {
		return api.Value{}, e
	}
	soFar := kids[1]
	for _, v := range kids[0].List {
		soFar, e = r.eval(n.Kids[4], binding{n.Kids[2].Text, soFar}, binding{n.Kids[3].Text, v})
		if e != api.OK {
			return api.Value{}, e
		}
	}
	return soFar, api.OK
}

// ifFits tells a value that was made, if its size is none that ends all. It can't be wrong
// in another way: it is of its term's type, and what was too long is cut.
func ifFits(v api.Value) (api.Value, api.Errno) {
	if value.Check(v) != api.OK {
		return api.Value{}, api.ErrFuel
	}
	return v, api.OK
}
