package combine

import (
	"math"
	"math/rand"
	"slices"
	"strings"
	"testing"

	"watershed/api"
	"watershed/kind"
)

// spoiled are values that aren't right, or of no type that there is.
func spoiled() []api.Value {
	ring := []api.Value{none}
	ring[0] = row(ring...)
	ring[0].List = ring
	deep := row()
	for range api.MaxDepth {
		deep = row(deep)
	}
	huge := row(times(40, row(times(50, num(1))...))...)
	return []api.Value{
		{}, {Kind: -1}, {Kind: 10}, flag(2), letters(strings.Repeat("x", api.MaxText+1)), raw(strings.Repeat("x", api.MaxText+1)), {Kind: api.Int, Text: "x"}, {Kind: api.Int, List: nums(1)}, {Kind: api.Text, Int: 1}, {Kind: api.Bool, Text: "x"}, {Kind: api.List, Int: 1}, {Kind: api.None, Int: 1}, {Kind: api.None, List: nums(1)}, {Kind: api.Int, Point: 1},
		{Kind: api.Point, Point: 0.5}, {Kind: api.Point, Point: 1 << 20}, {Kind: api.Point, Point: complex(0, -1<<20-1)}, {Kind: api.Point, Point: complex(math.NaN(), 0)}, {Kind: api.Point, Point: complex(0, math.Inf(1))}, {Kind: api.Point, Int: 1},
		{Kind: api.Pair}, {Kind: api.Pair, List: nums(1)}, {Kind: api.Pair, List: nums(1, 2, 3)}, {Kind: api.Some}, {Kind: api.Some, List: nums(1, 2)}, row(times(api.MaxList+1, num(1))...), row(api.Value{}), some(flag(3)), deep, huge, ring[0],
	}
}

// strangers are values that aren't of a type: right ones of others, and what isn't right.
func strangers(of string) []api.Value {
	others := []api.Value{
		flag(0), num(0), letters(""), raw(""), {Kind: api.Point}, two(num(0), letters("")), two(letters(""), num(0)), two(num(0), num(0)), row(num(0)), row(letters("")), row(row(num(0))), row(row()), row(none), none, some(num(0)), some(none), some(letters("")), two(flag(0), none), two(flag(0), some(flag(0))), row(num(1), letters("")), row(num(1), none),
	}
	var all []api.Value
	for _, v := range others {
		if !kind.Has(typeOf(of), v) {
			all = append(all, v)
		}
	}
	return append(all, spoiled()...)
}

// P8.3: a value that isn't of the type, or isn't right, is refused, at each place among others, even where no value is looked at.
func TestWrongValues(t *testing.T) {
	r := rand.New(rand.NewSource(9))
	for _, x := range cases(r, 6) {
		o := work(t, x.c, x.of)
		good := bag(r, typeOf(x.of), 4)
		for _, bad := range strangers(x.of) {
			got, e := o.Add(o.Create(), bad)
			wantRefused(t, "Add, "+x.text(), got, e)
			for n := range len(good) + 1 {
				got, e := o.Add(o.Create(), slices.Insert(slices.Clone(good), n, bad)...)
				wantRefused(t, "Add among others, "+x.text(), got, e)
			}
		}
		acc, e := o.Add(o.Create(), good...)
		wantValue(t, "Add, "+x.text(), acc, e, plainAcc(x.c, good))
	}
}

// wantNoAcc: is it refused as an accumulator, by every call and at every place?
func wantNoAcc(t *testing.T, what string, o *Op, bad api.Value, values ...api.Value) {
	t.Helper()
	got, e := o.Add(bad)
	wantRefused(t, "Add to what is wrong, "+what, got, e)
	got, e = o.Add(bad, values...)
	wantRefused(t, "Add to what is wrong, "+what, got, e)
	got, e = o.Extract(bad)
	wantRefused(t, "Extract, "+what, got, e)
	good, _ := o.Add(o.Create(), values...)
	for _, accs := range [][]api.Value{{bad}, {bad, good}, {good, bad}, {good, bad, good}, {o.Create(), o.Create(), o.Create(), bad}, {bad, bad}} {
		got, e = o.Merge(accs...)
		wantRefused(t, "Merge, "+what, got, e)
	}
}

// P8.3: what isn't of the accumulators' type, or isn't right, is no accumulator.
func TestNoAccumulators(t *testing.T) {
	r := rand.New(rand.NewSource(10))
	for _, x := range cases(r, 6) {
		o := work(t, x.c, x.of)
		acc, _, _ := plainTypes(x.c, x.of)
		for _, bad := range strangers(acc) {
			wantNoAcc(t, x.text(), o, bad, bag(r, typeOf(x.of), 2)...)
		}
	}
}

// P8.3: what is of the accumulators' type, but could be none: in a wrong order, too many, equal ones in a set, too great ones.
func TestImpossible(t *testing.T) {
	for _, x := range []struct {
		c    Comb
		good []api.Value
		bad  []api.Value
	}{
		{comb("all"), []api.Value{row(), row(num(1)), row(nums(1, 2)...), row(nums(1, 1)...), row(rising(0, 16)...), row(times(16, num(1))...), row(nums(least, most)...)}, []api.Value{row(nums(2, 1)...), row(nums(1, 3, 2)...), row(nums(2, 1, 3)...), row(nums(1, 2, 1)...), row(rising(0, 17)...), row(times(17, num(1))...), row(rising(0, 64)...), row(nums(most, least)...)}},
		{comb("set"), []api.Value{row(), row(num(1)), row(nums(1, 2)...), row(rising(0, 16)...)}, []api.Value{row(nums(1, 1)...), row(nums(1, 2, 2)...), row(nums(1, 1, 2)...), row(nums(2, 1)...), row(nums(1, 2, 1)...), row(rising(0, 17)...)}},
		{top(1), []api.Value{row(), row(num(1))}, []api.Value{row(nums(1, 1)...), row(nums(2, 1)...), row(nums(1, 2)...)}},
		{top(2), []api.Value{row(), row(num(1)), row(nums(2, 1)...), row(nums(1, 1)...)}, []api.Value{row(nums(1, 2)...), row(nums(3, 2, 1)...), row(nums(1, 1, 1)...)}},
		{top(16), []api.Value{row(falling(20, 16)...), row(times(16, num(1))...)}, []api.Value{row(falling(20, 17)...), row(rising(0, 16)...), row(nums(3, 1, 2)...), row(nums(2, 3, 1)...)}},
		{comb("count"), nums(0, 1, -1, least, most), []api.Value{row(), two(num(0), num(0)), none}},
		{comb("sum"), nums(0, 1, -1, least, most), []api.Value{row(), some(num(0)), {}}},
		{comb("mean"), []api.Value{two(num(0), num(0)), two(num(5), num(0)), two(num(5), num(-1)), two(num(least), num(least))}, []api.Value{num(0), two(num(0), none), {Kind: api.Pair, List: nums(1)}}},
		{comb("min"), []api.Value{none, some(num(1))}, []api.Value{num(1), row(), row(num(1)), some(none)}},
	} {
		o := work(t, x.c, "int")
		for _, acc := range x.good {
			got, e := o.Merge(acc)
			wantValue(t, plainText(x.c), got, e, acc)
			got, e = o.Add(acc)
			wantValue(t, plainText(x.c), got, e, acc)
			got, e = o.Extract(acc)
			wantValue(t, plainText(x.c), got, e, plainOutcome(x.c, acc))
		}
		for _, acc := range x.bad {
			wantNoAcc(t, plainText(x.c), o, acc, nums(1, 2)...)
		}
	}
}

// P8.3: no accumulator keeps a value of a size above 16, first, last, or between others.
func TestTooGreat(t *testing.T) {
	small, next, last := sized(16, 1), row(nums(8)...), row(nums(9)...)
	for n := 0; n < 10; n += 9 {
		great := sized(17, n)
		for _, s := range []string{"min", "max"} {
			o := work(t, comb(s), "list(int)")
			wantNoAcc(t, s, o, some(great), small)
			wantNoAcc(t, s, o, some(sized(65, 1)), small)
			got, e := o.Merge(some(small))
			wantValue(t, s, got, e, some(small))
		}
		for _, acc := range []api.Value{row(great), row(row(), great), row(great, last), row(row(), great, next, last), row(sized(65, 1))} {
			slices.Reverse(acc.List)
			wantNoAcc(t, "top", work(t, top(4), "list(int)"), acc, small)
			slices.Reverse(acc.List)
			wantNoAcc(t, "all", work(t, comb("all"), "list(int)"), acc, small)
			wantNoAcc(t, "set", work(t, comb("set"), "list(int)"), acc, small)
		}
		got, e := work(t, comb("all"), "list(int)").Merge(row(row(), small, next, last))
		wantValue(t, "all", got, e, row(row(), small, next, last))
	}
}

// P8.3: one wrong part makes an accumulator of both wrong, however deep it stands and whichever it is.
func TestWrongParts(t *testing.T) {
	good, bad := row(nums(1, 2)...), row(nums(2, 1)...)
	all, count := comb("all"), comb("count")
	o := work(t, joint(all, all), "int")
	wantNoAcc(t, "both", o, two(bad, good), num(1))
	wantNoAcc(t, "both", o, two(good, bad), num(1))
	wantNoAcc(t, "both", o, two(bad, bad), num(1))
	o = work(t, joint(all, top(2)), "int")
	wantNoAcc(t, "both", o, two(good, good), num(1))
	wantNoAcc(t, "both", o, two(bad, bad), num(1))
	got, e := o.Merge(two(good, bad))
	wantValue(t, "both", got, e, two(good, bad))
	o = work(t, joint(joint(count, all), joint(comb("set"), comb("mean"))), "int")
	mean := two(num(1), num(1))
	for _, acc := range []api.Value{two(two(num(1), bad), two(good, mean)), two(two(num(1), good), two(bad, mean)), two(two(num(1), good), two(row(nums(1, 1)...), mean)), two(two(good, num(1)), two(good, mean)), two(two(num(1), good), mean), two(two(num(1), good), two(good, num(1)))} {
		wantNoAcc(t, "both of both", o, acc, num(1))
	}
	acc := two(two(num(1), row(nums(1, 1)...)), two(good, mean))
	got, e = o.Merge(acc)
	wantValue(t, "both of both", got, e, acc)
}

// P8.3: any values of the accumulators' type: those that could be one are taken as they are, the others are refused.
func TestAnyAccumulators(t *testing.T) {
	r := rand.New(rand.NewSource(11))
	taken := 0
	for _, x := range cases(r, 25) {
		o := work(t, x.c, x.of)
		accText, _, _ := plainTypes(x.c, x.of)
		for range 40 {
			acc := anyOf(r, typeOf(accText))
			if plainCould(x.c, acc) {
				got, e := o.Merge(acc)
				wantValue(t, "Merge, "+x.text(), got, e, acc)
				got, e = o.Extract(acc)
				wantValue(t, "Extract, "+x.text(), got, e, plainOutcome(x.c, acc))
				taken++
			} else {
				wantNoAcc(t, x.text(), o, acc)
			}
		}
	}
	if taken < 1000 {
		t.Errorf("only %d were taken", taken)
	}
}
