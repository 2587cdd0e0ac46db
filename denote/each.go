package denote

import (
	"watershed/api"
	"watershed/valid"
	"watershed/window"
)

// Emit: what comes of a value.
func Emit(v *valid.Valid, i int, x Out, sides ...api.Value) ([]Out, api.Errno) {
	fn, ok := v.Fn(i)
	if !ok {
		return nil, api.ErrInput
	}
	if x.Win.Check() != api.OK {
		return nil, api.ErrItem
	}
	values, e := fn.Emit(x.Value, sides...)
	if e != api.OK && e != api.ErrFuel {
		return nil, api.ErrItem
	}
	var emitted []Out
	for _, y := range values[:min(len(values), api.MaxEmit)] {
		if fits(y) {
			emitted = append(emitted, Out{Value: y, Time: x.Time, Win: x.Win})
		}
	}
	return emitted, api.OK
}

// side is a node at which an Each looks.
type side struct {
	fn    window.Fn
	lists map[window.Window]api.Value // of each window in which it has values the least of them
}

// side tells how an Each looks at the node at this place.
func (w *work) side(at int) side {
	values := map[window.Window][]api.Value{}
	for _, x := range w.outs[at] {
		values[x.Win] = append(values[x.Win], x.Value)
	}
	fn, _ := w.v.Win(at)
	s := side{fn: fn, lists: map[window.Window]api.Value{}}
	for win, all := range values {
		s.lists[win] = Least(all...)
	}
	return s
}

// list tells what is seen there from another window.
func (s side) list(from window.Window) api.Value {
	at, _ := s.fn.Side(from)
	if list, ok := s.lists[at]; ok {
		return list
	}
	return Least()
}
