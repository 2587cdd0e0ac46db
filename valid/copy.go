package valid

import (
	"strings"

	"watershed/graph"
	"watershed/kind"
)

// fresh tells a right pipeline in memory of its own.
func fresh(p graph.Pipeline) graph.Pipeline {
	nodes := make([]graph.Node, len(p.Nodes))
	for i, n := range p.Nodes {
		n.In = append([]int(nil), n.In...)
		n.Side = append([]int(nil), n.Side...)
		n.Text = strings.Clone(n.Text)
		n.Type = freshType(n.Type)
		nodes[i] = n
	}
	return graph.Pipeline{Nodes: nodes}
}

// freshType tells a type, a right one or none at all, in memory of its own.
func freshType(t kind.Type) kind.Type {
	t, _ = kind.Make(t.Kind, t.Args...)
	return t
}
