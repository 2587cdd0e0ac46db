package combine

import (
	"slices"

	"watershed/api"
	"watershed/kind"
	"watershed/value"
)

// maxSize is the size of the greatest values that are kept.
const maxSize = 16

// isAcc: is it a right accumulator?
func (o *Op) isAcc(acc api.Value) bool {
	return kind.Has(o.acc, acc) && o.couldBe(acc)
}

// couldBe: may a value of the accumulators' type be one?
func (o *Op) couldBe(acc api.Value) bool {
	for i, p := range o.parts {
		if !p.couldBe(acc.List[i]) {
			return false
		}
	}
	return o.most == 0 || o.isKept(acc.List)
}

// isKept: may it be all that an accumulator keeps?
func (o *Op) isKept(kept []api.Value) bool {
	for i, v := range kept {
		if !isSmall(v) || i > 0 && !o.follows(kept[i-1], v) {
			return false
		}
	}
	return len(kept) <= o.most
}

// follows: may w be kept next behind v?
func (o *Op) follows(v, w api.Value) bool {
	k := o.order(v, w)
	return k < 0 || k == 0 && o.name != setName
}

// order compares values as they are kept: the one that stays longest is the first.
func (o *Op) order(v, w api.Value) int {
	k, _ := value.Compare(v, w)
	if o.name == maxName || o.name == topName {
		return -k
	}
	return k
}

// isSmall: is a right value kept at all?
func isSmall(v api.Value) bool {
	size, _ := value.Size(v)
	return size <= maxSize
}

// gather tells the accumulator of values. Its memory may be theirs.
func (o *Op) gather(values ...api.Value) api.Value {
	switch {
	case o.name == countName:
		return number(len(values))
	case len(o.parts) > 0:
		return pair(o.parts[0].gather(values...), o.parts[1].gather(values...))
	case o.most > 0:
		return o.holding(o.keep(values)...)
	}
	return o.join(values...) // each of them is its own accumulator
}

// join tells the accumulator of what all of these have. Its memory may be theirs.
func (o *Op) join(accs ...api.Value) api.Value {
	switch {
	case o.name == spinName:
		product, _ := value.Times(accs...)
		return product
	case len(o.parts) > 0:
		return pair(o.parts[0].join(place(0, accs)...), o.parts[1].join(place(1, accs)...))
	case o.most > 0:
		return o.gather(within(accs)...)
	}
	sum := 0
	for _, a := range accs {
		sum += a.Int
	}
	return number(sum)
}

// keep tells which of values stay, in their order.
func (o *Op) keep(values []api.Value) []api.Value {
	var kept []api.Value
	for _, v := range values {
		if !isSmall(v) {
			continue
		}
		at, found := slices.BinarySearchFunc(kept, v, o.order)
		if !found || o.name != setName {
			kept = slices.Insert(kept, at, v)
			kept = kept[:min(len(kept), o.most)]
		}
	}
	return kept
}

// holding tells the accumulator that keeps just these.
func (o *Op) holding(kept ...api.Value) api.Value {
	if o.acc.Kind == api.Some && len(kept) == 0 {
		return api.Value{Kind: api.None}
	}
	return api.Value{Kind: o.acc.Kind, List: kept}
}

// outcome tells what comes of an accumulator. Its memory may be the accumulator's.
func (o *Op) outcome(acc api.Value) api.Value {
	switch o.name {
	case meanName:
		return number(quotient(acc.List[0].Int, acc.List[1].Int))
	case bothName:
		return pair(o.parts[0].outcome(acc.List[0]), o.parts[1].outcome(acc.List[1]))
	}
	return acc
}

// quotient tells the sum by the count. The least int by -1 is itself here, as it
// has to be modulo 2^64.
func quotient(sum, count int) int {
	if count == 0 {
		return 0
	}
	return sum / count
}

// place tells what stands at a place of pairs.
func place(at int, pairs []api.Value) []api.Value {
	var values []api.Value
	for _, p := range pairs {
		values = append(values, p.List[at])
	}
	return values
}

// within tells what stands in lists and options.
func within(lists []api.Value) []api.Value {
	var values []api.Value
	for _, l := range lists {
		values = append(values, l.List...)
	}
	return values
}

func number(n int) api.Value { return api.Value{Kind: api.Int, Int: n} }

func pair(a, b api.Value) api.Value { return api.Value{Kind: api.Pair, List: []api.Value{a, b}} }
