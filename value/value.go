// Package value is layer 1: the values that flow, their order, and the arithmetic of points.
package value

import (
	"cmp"
	"slices"
	"strings"

	"watershed/api"
)

// Check: is it right?
func Check(v api.Value) api.Errno {
	_, _, e := measure(v)
	return e
}

// Size: how many values are in it.
func Size(v api.Value) (int, api.Errno) {
	size, _, e := measure(v)
	return size, e
}

// Depth: how deep it is.
func Depth(v api.Value) (int, api.Errno) {
	_, depth, e := measure(v)
	return depth, e
}

// Compare: which one is less?
func Compare(a, b api.Value) (int, api.Errno) {
	if e := checkAll(a, b); e != api.OK {
		return 0, e
	}
	return order(a, b), api.OK
}

// Sort: values in their order.
func Sort(list ...api.Value) ([]api.Value, api.Errno) {
	if e := checkAll(list...); e != api.OK {
		return nil, e
	}
	sorted := fresh(list)
	slices.SortStableFunc(sorted, order)
	return sorted, api.OK
}

// Copy: the value in new memory.
func Copy(v api.Value) (api.Value, api.Errno) {
	if e := Check(v); e != api.OK {
		return api.Value{}, e
	}
	return fresh([]api.Value{v})[0], api.OK
}

// checkAll: are all of them right?
func checkAll(list ...api.Value) api.Errno {
	for _, v := range list {
		if e := Check(v); e != api.OK {
			return e
		}
	}
	return api.OK
}

// measure tells a right value's size and depth. It stops as soon as a limit is
// passed, because lists may stand in themselves, or one list in many places.
func measure(v api.Value) (size, depth int, e api.Errno) {
	size = 1
	level := []api.Value{v}
again:
	depth++
	if depth > api.MaxDepth {
		return 0, 0, api.ErrValue
	}
	var below []api.Value
	for _, w := range level {
		size += len(w.List)
		if size > api.MaxSize || !fits(w) {
			return 0, 0, api.ErrValue
		}
		below = append(below, w.List...)
	}
	if len(below) > 0 {
		level = below
		goto again
	}
	return size, depth, api.OK
}

// fits: do the fields suit the kind? What stands in its list isn't looked at.
// A field that counts is set to zero once it is seen, so that at the end all must be.
func fits(v api.Value) bool {
	good := true
	switch v.Kind {
	case api.Bool:
		good, v.Int = v.Int == 0 || v.Int == 1, 0
	case api.Int:
		v.Int = 0
	case api.Text, api.Bytes:
		good, v.Text = len(v.Text) <= api.MaxText, ""
	case api.Point:
		good, v.Point = isPart(real(v.Point)) && isPart(imag(v.Point)), 0
	case api.Pair:
		good, v.List = len(v.List) == 2, nil
	case api.List:
		good, v.List = len(v.List) <= api.MaxList, nil
	case api.None:
	case api.Some:
		good, v.List = len(v.List) == 1, nil
	default:
		good = false
	}
	return good && v.Int == 0 && v.Text == "" && v.Point == 0 && len(v.List) == 0
}

// twins are two values that stand at the same place of two others.
type twins struct{ a, b api.Value }

// order compares two right values. Where twins are unlike, whatever stands behind
// them counts no more; only what is deeper in those ahead of them may still do.
func order(a, b api.Value) int {
	answer := 0
	level := []twins{{a, b}}
again:
	var below []twins
	for _, t := range level {
		unlike := orderHeads(t.a, t.b)
		if unlike == 0 {
			below = appendTwins(below, t.a.List, t.b.List)
			unlike = cmp.Compare(len(t.a.List), len(t.b.List))
		}
		if unlike != 0 {
			answer = unlike
			break
		}
	}
	if len(below) > 0 {
		level = below
		goto again
	}
	return answer
}

// orderHeads compares all but the lists: fields that a kind doesn't name are zero in both.
func orderHeads(a, b api.Value) int {
	return cmp.Or(
		cmp.Compare(a.Kind, b.Kind),
		cmp.Compare(a.Int, b.Int),
		cmp.Compare(a.Text, b.Text),
		cmp.Compare(real(a.Point), real(b.Point)),
		cmp.Compare(imag(a.Point), imag(b.Point)),
	)
}

// appendTwins adds what stands at the places that both lists have.
func appendTwins(to []twins, a, b []api.Value) []twins {
	for i := range min(len(a), len(b)) {
		to = append(to, twins{a[i], b[i]})
	}
	return to
}

// fresh tells right values in memory of their own, every list in one of its own.
func fresh(list []api.Value) []api.Value {
	top := freshList(list)
	level := [][]api.Value{top}
again:
	var below [][]api.Value
	for _, l := range level {
		for i := range l {
			l[i].Text = strings.Clone(l[i].Text)
			l[i].List = freshList(l[i].List)
			if len(l[i].List) > 0 {
				below = append(below, l[i].List)
			}
		}
	}
	if len(below) > 0 {
		level = below
		goto again
	}
	return top
}

// freshList tells the same values in a new list, whose own lists are still the old ones.
func freshList(list []api.Value) []api.Value {
	if len(list) == 0 {
		return nil
	}
	l := make([]api.Value, len(list))
	copy(l, list)
	return l
}
