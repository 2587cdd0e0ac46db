package valid

import (
	"slices"

	"watershed/api"
	"watershed/check"
	"watershed/combine"
	"watershed/eval"
	"watershed/expr"
	"watershed/graph"
	"watershed/kind"
	"watershed/window"
)

// node is what a node has.
type node struct {
	of     kind.Type
	win    window.Fn
	fn     *eval.Fn    // of an Each alone
	op     *combine.Op // of a Group alone
	weight int
}

// work tells what a node has, from those ahead of it, of which that is told already.
func (v *Valid) work(n graph.Node) (has node, e api.Errno) {
	switch n.Op {
	case graph.Source:
		has.of = n.Type
	case graph.Each:
		has, e = v.each(n)
	case graph.Group:
		has, e = v.group(n)
	case graph.Flatten:
		has, e = v.flatten(n)
	default:
		has.of, has.win = v.from(n).of, v.from(n).win
	}
	if n.Op == graph.Window {
		has.win = n.Fn
	}
	if e != api.OK {
		return node{}, e
	}
	if has.weight = v.weigh(n); has.weight > api.MaxMany {
		return node{}, api.ErrMany
	}
	return has, api.OK
}

// from tells what the node has that another one reads from first.
func (v *Valid) from(n graph.Node) node { return v.nodes[n.In[0]] }

// each tells what an Each has.
func (v *Valid) each(n graph.Node) (node, api.Errno) {
	term, _, e := expr.Parse(n.Text)
	if e != api.OK {
		return node{}, api.ErrSyntax
	}
	sessions := func(at int) bool { return v.nodes[at].win.Kind == window.Sessions }
	if slices.ContainsFunc(n.Side, sessions) {
		return node{}, api.ErrWindow
	}
	env := check.Env{It: v.from(n).of, Sides: v.sides(n)}
	of, _, e := check.Emits(term, env)
	if e != api.OK {
		return node{}, e
	}
	fn, e := eval.New(term, env)
	return node{of: of, win: v.from(n).win, fn: fn}, e
}

// sides tells the types of what an Each looks at: lists of what the nodes of its Side have.
func (v *Valid) sides(n graph.Node) []kind.Type {
	var all []kind.Type
	for _, at := range n.Side {
		all = append(all, kind.Type{Kind: api.List, Args: []kind.Type{v.nodes[at].of}})
	}
	return all
}

// group tells what a Group has.
func (v *Valid) group(n graph.Node) (node, api.Errno) {
	in := v.from(n)
	if in.of.Kind != api.Pair {
		return node{}, api.ErrPair
	}
	comb, _, e := combine.Parse(n.Text)
	if e != api.OK {
		return node{}, api.ErrSyntax
	}
	op, e := combine.New(comb, in.of.Args[1])
	if e != api.OK {
		return node{}, api.ErrCombine
	}
	_, outcome := op.Types()
	of, e := kind.Make(api.Pair, in.of.Args[0], outcome)
	switch {
	case e != api.OK:
		return node{}, api.ErrCombine
	case v.merged(n.In[0]):
		return node{}, api.ErrWindow
	case waits(n) && in.win.Kind == window.Sessions:
		return node{}, api.ErrInner
	}
	return node{of: of, win: in.win, op: op}, api.OK
}

// flatten tells what a Flatten has.
func (v *Valid) flatten(n graph.Node) (node, api.Errno) {
	first := v.from(n)
	unlike := func(at int) bool {
		other := v.nodes[at]
		return other.win != first.win || !kind.Same(other.of, first.of)
	}
	if slices.ContainsFunc(n.In, unlike) {
		return node{}, api.ErrMixed
	}
	return node{of: first.of, win: first.win}, api.OK
}

// merged: has the node at this place merged sessions? Each way that leads to it from
// a Source adds to its weight, so there are no more than MaxMany ways to look along.
func (v *Valid) merged(at int) bool {
	n := v.p.Nodes[at]
	switch n.Op {
	case graph.Group:
		return v.nodes[at].win.Kind == window.Sessions
	case graph.Each, graph.Flatten, graph.Sink:
		return slices.ContainsFunc(n.In, v.merged)
	}
	return false
}

// weigh tells a node's weight. What it reads from weighs at most MaxMany each.
func (v *Valid) weigh(n graph.Node) int {
	weight := 0
	for _, at := range n.In {
		weight += v.nodes[at].weight
	}
	switch {
	case n.Op == graph.Source:
		return 1
	case n.Op == graph.Each:
		return weight * api.MaxEmit
	case n.Op == graph.Window && n.Fn.Kind == window.Sliding:
		return weight * ((n.Fn.Size + n.Fn.Period - 1) / n.Fn.Period)
	}
	return weight
}

// waits: is it a Group that waits?
func waits(n graph.Node) bool {
	return n.Op == graph.Group && (n.Trig.Early != 0 || n.Trig.Lateness != 0)
}
