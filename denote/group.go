package denote

import (
	"cmp"
	"maps"
	"slices"

	"watershed/api"
	"watershed/coder"
	"watershed/kind"
	"watershed/valid"
	"watershed/window"
)

// place is where values of a Group come together.
type place struct {
	win window.Window
	key string // the bytes of k
}

// Group: what a grouping has of values.
func Group(v *valid.Valid, i int, values ...Out) ([]Out, api.Errno) {
	op, ok := v.Op(i)
	if !ok {
		return nil, api.ErrInput
	}
	in, _ := v.Type(v.Pipeline().Nodes[i].In[0])
	for _, x := range values {
		if !kind.Has(in, x.Value) || x.Win.Check() != api.OK {
			return nil, api.ErrItem
		}
	}
	places := placesOf(in.Args[0], values)
	if fn, _ := v.Win(i); fn.Kind == window.Sessions {
		places = merged(places)
	}
	combined := func(values []api.Value) api.Value {
		acc, _ := op.Add(op.Create(), values...)
		outcome, _ := op.Extract(acc)
		return outcome
	}
	together := map[place][]api.Value{}
	for at, x := range values {
		together[places[at]] = append(together[places[at]], x.Value.List[1])
	}
	var outcomes []Out
	// Within a window the bytes of keys stand as the pairs do that begin with these keys.
	for _, p := range slices.SortedFunc(maps.Keys(together), orderPlaces) {
		outcomes = append(outcomes, p.holds(in.Args[0], combined(together[p])))
	}
	return outcomes, api.OK
}

// placesOf tells of each of the values its place.
func placesOf(key kind.Type, values []Out) []place {
	places := make([]place, len(values))
	for at, x := range values {
		b, _ := coder.Encode(key, x.Value.List[0])
		places[at] = place{win: x.Win, key: string(b)}
	}
	return places
}

// merged tells the places of sessions: of each key those windows are one that overlap.
func merged(places []place) []place {
	windows := map[string][]window.Window{}
	for _, p := range places {
		windows[p.key] = append(windows[p.key], p.win)
	}
	sessions := map[string][]window.Window{}
	for key, all := range windows {
		sessions[key], _ = window.Merge(all...)
	}
	whole := make([]place, len(places))
	for at, p := range places {
		// Sessions don't overlap: the first one that ends no sooner is the one that p is part of.
		part, _ := slices.BinarySearchFunc(sessions[p.key], p.win.To, func(s window.Window, to int) int { return cmp.Compare(s.To, to) })
		whole[at] = place{win: sessions[p.key][part], key: p.key}
	}
	return whole
}

// orderPlaces compares places by window, then by key.
func orderPlaces(a, b place) int {
	return cmp.Or(orderWindows(a.win, b.win), cmp.Compare(a.key, b.key))
}

// holds tells the value of a Group at a place, y being what has come together there.
func (p place) holds(key kind.Type, y api.Value) Out {
	k, _, _ := coder.Decode(key, []byte(p.key))
	stamp, _ := p.win.Stamp()
	return Out{Value: api.Value{Kind: api.Pair, List: []api.Value{k, y}}, Time: stamp, Win: p.win}
}
