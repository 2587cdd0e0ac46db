package graph

import (
	"slices"
	"strings"

	"watershed/api"
	"watershed/kind"
	"watershed/trigger"
	"watershed/window"
)

const (
	maxReads = 4    // how many Sides an Each has at most, and how many Ins a Flatten
	maxText  = 1000 // how many bytes a Text has at most
)

// op is what the nodes of an Op have: a word ahead of so many parts in their lines, and
// so many places in In and in Side.
type op struct {
	number                    int
	word                      string
	parts                     int
	leastIn, mostIn, mostSide int
}

var ops = [...]op{
	{Source, "source", 1, 0, 0, 0},
	{Each, "each", 3, 1, 1, maxReads},
	{Window, "window", 5, 1, 1, 0},
	{Group, "group", 6, 1, 1, 0},
	{Flatten, "flatten", 1, 1, maxReads, 0},
	{Sink, "sink", 1, 1, 1, 0},
}

// opOf tells what the nodes of an Op have.
func opOf(number int) (op, bool) {
	for _, o := range ops {
		if o.number == number {
			return o, true
		}
	}
	return op{}, false
}

// check tells what is wrong with a node that stands behind these, which are right.
func (n Node) check(ahead []Node) api.Errno {
	o, found := opOf(n.Op)
	switch {
	case !found:
		return api.ErrOp
	case !within(len(n.In), o.leastIn, o.mostIn) || !within(len(n.Side), 0, o.mostSide):
		return api.ErrInput
	case !readable(n.In, ahead) || !readable(n.Side, ahead):
		return api.ErrInput
	case !n.formed():
		return api.ErrForm
	}
	return api.OK
}

// readable: are these places, rising, of nodes that stand ahead, and of no Sink?
func readable(places []int, ahead []Node) bool {
	for _, at := range places {
		if !within(at, 0, len(ahead)-1) || ahead[at].Op == Sink {
			return false
		}
	}
	return rising(places)
}

// rising: is each of these places above the one ahead of it?
func rising(places []int) bool {
	for i := 1; i < len(places); i++ {
		if places[i] <= places[i-1] {
			return false
		}
	}
	return true
}

// formed: is all that is no place as the node's Op has it? What that doesn't name has to be zero.
func (n Node) formed() bool {
	text := n.Text == ""
	typed := n.Type.Kind == 0 && len(n.Type.Args) == 0
	fn := n.Fn == window.Fn{}
	trig := n.Trig == trigger.Spec{}
	switch n.Op {
	case Source:
		typed = kind.Check(n.Type) == api.OK
	case Each:
		text = isText(n.Text)
	case Window:
		fn = n.Fn.Check() == api.OK
	case Group:
		text = isText(n.Text)
		trig = n.Trig.Check() == api.OK
	}
	return text && typed && fn && trig
}

// isText: may a node have this Text?
func isText(s string) bool {
	if !within(len(s), 1, maxText) {
		return false
	}
	for i := range len(s) {
		if !within(int(s[i]), ' ', '~') {
			return false
		}
	}
	return true
}

// reads tells the places of all nodes that a node reads from.
func (n Node) reads() []int { return slices.Concat(n.In, n.Side) }

// fresh tells a node in memory of its own. A type that is not right may stand in itself,
// and can't be copied as it is: no type at all, which is not right either, stands for it.
func (n Node) fresh() Node {
	n.In = append([]int(nil), n.In...)
	n.Side = append([]int(nil), n.Side...)
	n.Text = strings.Clone(n.Text)
	n.Type, _ = kind.Make(n.Type.Kind, n.Type.Args...)
	return n
}

// within: is n from least to most?
func within(n, least, most int) bool { return least <= n && n <= most }
