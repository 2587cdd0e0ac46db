package combine

import (
	"watershed/api"
	"watershed/kind"
)

// build makes an Op of a right combiner and a right type, if the one takes the other.
func build(c Comb, t kind.Type) (*Op, bool) {
	h, _ := headOf(c, maxDepth)
	o := &Op{name: h.name, most: mostOf(c), of: t}
	for _, p := range partsOf(c) {
		part, taken := build(p, t)
		if !taken {
			return nil, false
		}
		o.parts = append(o.parts, part)
	}
	return o, o.takes() && o.setTypes()
}

// mostOf tells how many values an accumulator of a right combiner keeps at most; 0,
// if it keeps none.
func mostOf(c Comb) int {
	switch c.Name {
	case minName, maxName:
		return 1
	case allName, setName:
		return maxKept
	}
	return c.K
}

// partsOf tells the combiners whose accumulators stand in those of a right one. A
// mean has a sum and a count, as if it were both of these.
func partsOf(c Comb) []Comb {
	if c.Name == meanName {
		return []Comb{{Name: sumName}, {Name: countName}}
	}
	return c.Parts
}

// takes: can it work on values of its type? Its parts have been asked already.
func (o *Op) takes() bool {
	switch o.name {
	case sumName:
		return o.of.Kind == api.Int
	case spinName:
		return o.of.Kind == api.Point
	}
	return true
}

// setTypes sets the types of accumulators and outcomes, if both are right.
func (o *Op) setTypes() bool {
	var accError, outError api.Errno
	o.acc, accError = o.makeAcc()
	o.out, outError = o.makeOut()
	return accError == api.OK && outError == api.OK
}

// makeAcc tells the type of accumulators.
func (o *Op) makeAcc() (kind.Type, api.Errno) {
	switch o.name {
	case countName, sumName:
		return kind.Make(api.Int)
	case spinName:
		return kind.Make(api.Point)
	case minName, maxName:
		return kind.Make(api.Some, o.of)
	case allName, setName, topName:
		return kind.Make(api.List, o.of)
	}
	return kind.Make(api.Pair, o.parts[0].acc, o.parts[1].acc)
}

// makeOut tells the type of outcomes.
func (o *Op) makeOut() (kind.Type, api.Errno) {
	switch o.name {
	case meanName:
		return kind.Make(api.Int)
	case bothName:
		return kind.Make(api.Pair, o.parts[0].out, o.parts[1].out)
	}
	return o.acc, api.OK
}
