package combine

import (
	"cmp"
	"math/big"
	"slices"
	"strconv"
	"strings"

	"watershed/api"
)

// plainText tells a combiner's text, as the chapter says it.
func plainText(c Comb) string {
	switch c.Name {
	case "top":
		return "top(" + strconv.Itoa(c.K) + ")"
	case "both":
		return "both(" + plainText(c.Parts[0]) + "," + plainText(c.Parts[1]) + ")"
	}
	return c.Name
}

// plainTypes tells the texts of the types that a right combiner has with a right type, if it takes that.
func plainTypes(c Comb, of string) (acc, out string, taken bool) {
	switch c.Name {
	case "count":
		return "int", "int", true
	case "sum":
		return "int", "int", of == "int"
	case "mean":
		return "pair(int,int)", "int", of == "int"
	case "spin":
		return "point", "point", of == "point"
	case "min", "max":
		acc = "option(" + of + ")"
		return acc, acc, plainDepth(acc) <= 6
	case "all", "set", "top":
		acc = "list(" + of + ")"
		return acc, acc, plainDepth(acc) <= 6
	}
	a, x, one := plainTypes(c.Parts[0], of)
	b, y, other := plainTypes(c.Parts[1], of)
	acc = "pair(" + a + "," + b + ")"
	return acc, "pair(" + x + "," + y + ")", one && other && plainDepth(acc) <= 6
}

// plainDepth tells how deep the type of a text is.
func plainDepth(s string) int {
	open, deepest := 0, 0
	for _, b := range s {
		switch b {
		case '(':
			open++
		case ')':
			open--
		}
		deepest = max(deepest, open)
	}
	return deepest + 1
}

// plainPlain: has it no mean in it?
func plainPlain(c Comb) bool { return !strings.Contains(plainText(c), "mean") }

func plainSize(v api.Value) int {
	size := 1
	for _, w := range v.List {
		size += plainSize(w)
	}
	return size
}

// plainOrder compares values of one type.
func plainOrder(a, b api.Value) int {
	for i := range min(len(a.List), len(b.List)) {
		if k := plainOrder(a.List[i], b.List[i]); k != 0 {
			return k
		}
	}
	return cmp.Or(
		cmp.Compare(a.Kind, b.Kind), cmp.Compare(a.Int, b.Int), strings.Compare(a.Text, b.Text),
		cmp.Compare(real(a.Point), real(b.Point)), cmp.Compare(imag(a.Point), imag(b.Point)), cmp.Compare(len(a.List), len(b.List)),
	)
}

// wrapped takes a number modulo 2^64 as an int.
func wrapped(n *big.Int) api.Value {
	all := new(big.Int).Lsh(big.NewInt(1), 64)
	m := new(big.Int).Mod(n, all)
	if m.Bit(63) == 1 {
		m.Sub(m, all)
	}
	return num(int(m.Int64()))
}

// part takes a number modulo 2^21 as a part of a point.
func part(n *big.Int) float64 {
	m := new(big.Int).Mod(n, big.NewInt(1<<21)).Int64()
	if m >= 1<<20 {
		m -= 1 << 21
	}
	return float64(m)
}

func plainSum(values []api.Value) api.Value {
	sum := new(big.Int)
	for _, v := range values {
		sum.Add(sum, big.NewInt(int64(v.Int)))
	}
	return wrapped(sum)
}

func plainProduct(points []api.Value) api.Value {
	re, im := big.NewInt(1), new(big.Int)
	times := func(a, b *big.Int) *big.Int { return new(big.Int).Mul(a, b) }
	for _, p := range points {
		x, y := big.NewInt(int64(real(p.Point))), big.NewInt(int64(imag(p.Point)))
		re, im = new(big.Int).Sub(times(re, x), times(im, y)), new(big.Int).Add(times(re, y), times(im, x))
	}
	return api.Value{Kind: api.Point, Point: complex(part(re), part(im))}
}

// plainSorted tells the values that aren't passed over, rising.
func plainSorted(values []api.Value) []api.Value {
	var small []api.Value
	for _, v := range values {
		if plainSize(v) <= 16 {
			small = append(small, v)
		}
	}
	slices.SortFunc(small, plainOrder)
	return small
}

// plainUnlike tells each of those that are rising once.
func plainUnlike(rising []api.Value) []api.Value {
	var unlike []api.Value
	for i, v := range rising {
		if i == 0 || !same(rising[i-1], v) {
			unlike = append(unlike, v)
		}
	}
	return unlike
}

// plainAcc tells the accumulator of values that a combiner takes, as the chapter's table has it.
func plainAcc(c Comb, values []api.Value) api.Value {
	rising := plainSorted(values)
	falling := slices.Clone(rising)
	slices.Reverse(falling)
	first := func(values []api.Value) api.Value {
		if len(values) == 0 {
			return none
		}
		return some(values[0])
	}
	switch c.Name {
	case "count":
		return num(len(values))
	case "sum":
		return plainSum(values)
	case "mean":
		return two(plainSum(values), num(len(values)))
	case "spin":
		return plainProduct(values)
	case "min":
		return first(rising)
	case "max":
		return first(falling)
	case "all":
		return row(rising[:min(16, len(rising))]...)
	case "set":
		unlike := plainUnlike(rising)
		return row(unlike[:min(16, len(unlike))]...)
	case "top":
		return row(falling[:min(c.K, len(falling))]...)
	}
	return two(plainAcc(c.Parts[0], values), plainAcc(c.Parts[1], values))
}

// plainOutcome tells the outcome of a right accumulator.
func plainOutcome(c Comb, acc api.Value) api.Value {
	switch c.Name {
	case "mean":
		sum, count := big.NewInt(int64(acc.List[0].Int)), big.NewInt(int64(acc.List[1].Int))
		if count.Sign() == 0 {
			return num(0)
		}
		return wrapped(new(big.Int).Quo(sum, count))
	case "both":
		return two(plainOutcome(c.Parts[0], acc.List[0]), plainOutcome(c.Parts[1], acc.List[1]))
	}
	return acc
}

// plainCould: could a value of the type of a combiner's accumulators be one?
func plainCould(c Comb, acc api.Value) bool {
	kept := row(acc.List...)
	switch c.Name {
	case "min", "max":
		return len(acc.List) == 0 || plainSize(acc.List[0]) <= 16
	case "all", "set", "top":
		return same(plainAcc(c, acc.List), kept)
	case "both":
		return plainCould(c.Parts[0], acc.List[0]) && plainCould(c.Parts[1], acc.List[1])
	}
	return true
}
