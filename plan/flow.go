package plan

import (
	"watershed/api"
	"watershed/denote"
	"watershed/graph"
	"watershed/kind"
)

// flow is what values have become, by the places of nodes. Its memory may be that of
// others, and the values of a node may stand in any order.
type flow map[int][]denote.Out

// takes: may all these be values of the head at this place?
func (p *Plan) takes(head int, values []denote.Out) bool {
	of, _ := p.v.Type(head)
	for _, x := range values {
		timed := 0 <= x.Time && x.Time <= api.MaxTime
		if !timed || x.Win.Check() != api.OK || !kind.Has(of, x.Value) {
			return false
		}
	}
	return true
}

// through tells what becomes of the values of a stage's head. What doesn't come from
// there has no values in the flow: so of a Flatten just those Ins count that do.
func (p *Plan) through(s Stage, values []denote.Out) flow {
	f := flow{s.Head: values}
	for _, at := range s.Nodes {
		var all []denote.Out
		for _, in := range p.nodes[at].In {
			for _, x := range f[in] {
				all = append(all, p.become(at, x)...)
			}
		}
		f[at] = all
	}
	return f
}

// become tells what becomes of a value that comes to the node at this place, which is no head.
func (p *Plan) become(at int, x denote.Out) []denote.Out {
	switch n := p.nodes[at]; n.Op {
	case graph.Each:
		emitted, _ := denote.Emit(p.v, at, x)
		return emitted
	case graph.Window:
		return windowed(n, x)
	}
	return []denote.Out{x}
}

// windowed tells a value in each of the windows that a Window gives to its time.
func windowed(n graph.Node, x denote.Out) []denote.Out {
	var all []denote.Out
	windows, _ := n.Fn.Assign(x.Time)
	for _, w := range windows {
		all = append(all, denote.Out{Value: x.Value, Time: x.Time, Win: w})
	}
	return all
}
