package plan

import (
	"watershed/api"
	"watershed/denote"
	"watershed/graph"
	"watershed/window"
)

// batch is a plan that is worked out for an input.
type batch struct {
	*Plan
	input [][]denote.Item
	have  flow // what the nodes have of the stages that are done
}

// do does a stage. Those that feed it, and those at whose values its head looks, stand
// ahead of it. A node that is fused behind several heads has what it has in all of their stages.
func (b batch) do(s Stage) {
	f := b.through(s, b.head(s.Head))
	for _, at := range s.places() {
		b.have[at] = append(b.have[at], f[at]...)
	}
}

// head tells the values of the head at this place.
func (b batch) head(at int) []denote.Out {
	n := b.nodes[at]
	switch n.Op {
	case graph.Source:
		return b.items(at)
	case graph.Group:
		outcomes, _ := denote.Group(b.v, at, b.have[n.In[0]]...)
		return outcomes
	}
	return b.emitted(at)
}

// items tells the values of a Source. The input has lists for all Sources, live or not.
func (b batch) items(at int) []denote.Out {
	source := 0
	for _, n := range b.nodes[:at] {
		if n.Op == graph.Source {
			source++
		}
	}
	var all []denote.Out
	always, _ := window.Fn{Kind: window.Global}.Assign(0)
	for _, x := range b.input[source] {
		all = append(all, denote.Out{Value: x.Value, Time: x.Time, Win: always[0]})
	}
	return all
}

// emitted tells the values of an Each with a Side.
func (b batch) emitted(at int) []denote.Out {
	n := b.nodes[at]
	var sides []side
	for _, seen := range n.Side {
		sides = append(sides, b.side(seen))
	}
	var all []denote.Out
	for _, x := range b.have[n.In[0]] {
		lists := make([]api.Value, len(sides))
		for k, s := range sides {
			lists[k] = s.list(x.Win)
		}
		emitted, _ := denote.Emit(b.v, at, x, lists...)
		all = append(all, emitted...)
	}
	return all
}

// side is a node at which an Each looks.
type side struct {
	fn    window.Fn
	least map[window.Window]api.Value // of each window in which it has values the least of them
}

// side tells how an Each looks at the node at this place.
func (b batch) side(at int) side {
	values := map[window.Window][]api.Value{}
	for _, x := range b.have[at] {
		values[x.Win] = append(values[x.Win], x.Value)
	}
	fn, _ := b.v.Win(at)
	s := side{fn: fn, least: map[window.Window]api.Value{}}
	for w, all := range values {
		s.least[w] = denote.Least(all...)
	}
	return s
}

// list tells what is seen there from a window.
func (s side) list(from window.Window) api.Value {
	at, _ := s.fn.Side(from)
	if list, ok := s.least[at]; ok {
		return list
	}
	return denote.Least()
}
