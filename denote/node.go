package denote

import (
	"watershed/api"
	"watershed/graph"
	"watershed/valid"
	"watershed/window"
)

// work is a pipeline that is worked out.
type work struct {
	v     *valid.Valid
	nodes []graph.Node
	input [][]Item // of the Sources that are not worked out yet
	outs  [][]Out  // of the nodes that are worked out
}

// node tells the values of a node from those ahead of it. Their memory may be
// that of others, and they may stand in any order.
func (w *work) node(i int) []Out {
	switch n := w.nodes[i]; n.Op {
	case graph.Source:
		return w.source()
	case graph.Window:
		return w.window(n)
	case graph.Each:
		return w.each(i)
	case graph.Group:
		outcomes, _ := Group(w.v, i, w.outs[n.In[0]]...)
		return outcomes
	default:
		return w.flatten(n)
	}
}

// source tells the values of the next Source.
func (w *work) source() []Out {
	var all []Out
	always, _ := window.Fn{Kind: window.Global}.Assign(0)
	for _, x := range w.input[0] {
		all = append(all, Out{Value: x.Value, Time: x.Time, Win: always[0]})
	}
	w.input = w.input[1:]
	return all
}

// window tells the values of a Window.
func (w *work) window(n graph.Node) []Out {
	var all []Out
	for _, x := range w.outs[n.In[0]] {
		windows, _ := n.Fn.Assign(x.Time)
		for _, win := range windows {
			all = append(all, Out{Value: x.Value, Time: x.Time, Win: win})
		}
	}
	return all
}

// each tells the values of an Each.
func (w *work) each(i int) []Out {
	var all []Out
	n := w.nodes[i]
	sides := make([]side, len(n.Side))
	for k, at := range n.Side {
		sides[k] = w.side(at)
	}
	for _, x := range w.outs[n.In[0]] {
		lists := make([]api.Value, len(sides))
		for k, s := range sides {
			lists[k] = s.list(x.Win)
		}
		emitted, _ := Emit(w.v, i, x, lists...)
		all = append(all, emitted...)
	}
	return all
}

// flatten tells the values of all Ins together: of a Sink those of its one In.
func (w *work) flatten(n graph.Node) []Out {
	var all []Out
	for _, at := range n.In {
		all = append(all, w.outs[at]...)
	}
	return all
}
