package denote

import (
	"cmp"
	"slices"

	"watershed/api"
	"watershed/value"
	"watershed/window"
)

const (
	mostSeen = 16 // how many values a side has at most
	maxSeen  = 16 // the size of the greatest values that a side has
)

// Sort: values in order.
func Sort(list ...Out) []Out {
	sorted := inOrder(list)
	for at, x := range sorted {
		sorted[at].Value, _ = value.Copy(x.Value)
	}
	return sorted
}

// Same: are they the same values?
func Same(a, b []Out) bool {
	same := func(x, y Out) bool { return order(x, y) == 0 }
	return slices.EqualFunc(inOrder(a), inOrder(b), same)
}

// Least: the least values as a list.
func Least(values ...api.Value) api.Value {
	var seen []api.Value
	for _, v := range values {
		if size, e := value.Size(v); e == api.OK && size <= maxSeen {
			seen = append(seen, v)
		}
	}
	rising, _ := value.Sort(seen...)
	least := append([]api.Value(nil), rising[:min(len(rising), mostSeen)]...)
	return api.Value{Kind: api.List, List: least}
}

// inOrder tells a list in order whose values are still the old ones.
func inOrder(list []Out) []Out {
	sorted := append([]Out(nil), list...)
	slices.SortFunc(sorted, order)
	return sorted
}

// order compares values of a node by window, then by time, then by value.
func order(a, b Out) int {
	if k := cmp.Or(orderWindows(a.Win, b.Win), cmp.Compare(a.Time, b.Time)); k != 0 {
		return k
	}
	k, _ := value.Compare(a.Value, b.Value)
	return k
}

// orderWindows compares windows as layer 7 has them in order.
func orderWindows(a, b window.Window) int {
	switch {
	case a.Less(b):
		return -1
	case b.Less(a):
		return 1
	}
	return 0
}
