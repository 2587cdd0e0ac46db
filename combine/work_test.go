package combine

import (
	"math/rand"
	"slices"
	"testing"

	"watershed/api"
)

// fit is a combiner and the text of a type that it takes.
type fit struct {
	c  Comb
	of string
}

func (x fit) text() string { return plainText(x.c) + " of " + x.of }

// cases are each combiner that is one deep with every type that it takes, and any others with any of theirs.
func cases(r *rand.Rand, others int) []fit {
	var all []fit
	for i, c := range combs(r, others) {
		for j, of := range types() {
			if _, _, taken := plainTypes(c, of); taken && (i < 24 || (i+j)%5 == 0 || of == "int" || of == "point") {
				all = append(all, fit{c, of})
			}
		}
	}
	return all
}

// wantOutcome: does an accumulator have the outcome that the chapter's table says?
func wantOutcome(t *testing.T, x fit, o *Op, acc api.Value) {
	t.Helper()
	out, e := o.Extract(acc)
	wantValue(t, "Extract, "+x.text(), out, e, plainOutcome(x.c, acc))
	if o.Plain() && !same(out, acc) {
		t.Errorf("%s is plain, but of %v comes %v", x.text(), acc, out)
	}
}

// P8.3: values at once, one by one, and some by some; none at all.
func TestAdd(t *testing.T) {
	r := rand.New(rand.NewSource(4))
	for _, x := range cases(r, 30) {
		o := work(t, x.c, x.of)
		wantValue(t, "Create, "+x.text(), o.Create(), api.OK, plainAcc(x.c, nil))
		for _, many := range []int{0, 1, 5, 17, 30} {
			values := bag(r, typeOf(x.of), many)
			want := plainAcc(x.c, values)
			all, e := o.Add(o.Create(), values...)
			wantValue(t, "Add at once, "+x.text(), all, e, want)
			again, e := o.Add(all)
			wantValue(t, "Add of none, "+x.text(), again, e, want)
			each, some := o.Create(), o.Create()
			for _, v := range values {
				each, e = o.Add(each, v)
			}
			wantValue(t, "Add one by one, "+x.text(), each, e, want)
			for values := range slices.Chunk(values, 3) {
				some, e = o.Add(some, values...)
			}
			wantValue(t, "Add some by some, "+x.text(), some, e, want)
			wantOutcome(t, x, o, all)
		}
	}
}

// parted tells the accumulators of values that are put together anyhow, each value once.
func parted(t *testing.T, r *rand.Rand, o *Op, values []api.Value, groups int) []api.Value {
	accs := make([]api.Value, groups)
	for i := range accs {
		accs[i] = o.Create()
	}
	for _, i := range r.Perm(len(values)) {
		g := r.Intn(groups)
		acc, e := o.Add(accs[g], values[i])
		if e != api.OK {
			t.Fatalf("Add: %d", e)
		}
		accs[g] = acc
	}
	return accs
}

// P8.3: accumulators merged at once and two by two, in any order and grouping: the same comes of them.
func TestMerge(t *testing.T) {
	r := rand.New(rand.NewSource(5))
	for _, x := range cases(r, 25) {
		o := work(t, x.c, x.of)
		acc, e := o.Merge()
		wantValue(t, "Merge of none, "+x.text(), acc, e, plainAcc(x.c, nil))
		wantOutcome(t, x, o, acc)
		for _, groups := range []int{1, 2, 3, 7} {
			values := bag(r, typeOf(x.of), r.Intn(40))
			want := plainAcc(x.c, values)
			accs := parted(t, r, o, values, groups)
			acc, e := o.Merge(accs...)
			wantValue(t, "Merge, "+x.text(), acc, e, want)
			slices.Reverse(accs)
			acc, e = o.Merge(accs...)
			wantValue(t, "Merge the other way round, "+x.text(), acc, e, want)
			for len(accs) > 1 {
				r.Shuffle(len(accs), func(i, j int) { accs[i], accs[j] = accs[j], accs[i] })
				n := 1 + r.Intn(len(accs))
				acc, e = o.Merge(accs[:n]...)
				accs = append(accs[n:], acc)
			}
			wantValue(t, "Merge bit by bit, "+x.text(), accs[0], e, want)
			acc, e = o.Merge(o.Create(), accs[0], o.Create())
			wantValue(t, "Merge with none, "+x.text(), acc, e, want)
			wantOutcome(t, x, o, acc)
		}
	}
}

// P8.3: an accumulator goes on with values: it is as if they had come together.
func TestAddToAny(t *testing.T) {
	r := rand.New(rand.NewSource(6))
	for _, x := range cases(r, 25) {
		o := work(t, x.c, x.of)
		values, more := bag(r, typeOf(x.of), 1+r.Intn(20)), bag(r, typeOf(x.of), r.Intn(20))
		acc, e := o.Add(plainAcc(x.c, values), more...)
		wantValue(t, "Add, "+x.text(), acc, e, plainAcc(x.c, slices.Concat(values, more)))
	}
}

// P8.3: the chapter's examples.
func TestExamples(t *testing.T) {
	o := work(t, top(2), "int")
	acc, e := o.Add(o.Create(), nums(5, 9, 7)...)
	wantValue(t, "Add", acc, e, row(nums(9, 7)...))
	acc, e = o.Merge(acc, row(num(8)))
	wantValue(t, "Merge", acc, e, row(nums(9, 8)...))
	out, e := work(t, comb("mean"), "int").Extract(two(num(7), num(2)))
	wantValue(t, "Extract", out, e, num(3))
	o = work(t, joint(comb("sum"), comb("count")), "int")
	acc, e = o.Add(o.Create(), nums(4, -9, 7)...)
	wantValue(t, "Add", acc, e, two(num(2), num(3)))
}

// P8.3: each of the ten, with values whose outcome is written out.
func TestTen(t *testing.T) {
	point := func(re, im float64) api.Value { return api.Value{Kind: api.Point, Point: complex(re, im)} }
	for _, x := range []struct {
		c      Comb
		of     string
		values []api.Value
		want   api.Value
	}{
		{comb("count"), "text", []api.Value{letters("a"), letters(""), letters("a")}, num(3)}, {comb("sum"), "int", nums(5, -7, 4), num(2)}, {comb("mean"), "int", nums(5, -7, 4, 5), num(1)},
		{comb("spin"), "point", []api.Value{point(0, 1), point(0, 1), point(2, 3)}, point(-2, -3)}, {comb("spin"), "point", []api.Value{point(1<<19, 0), point(2, 0)}, point(-1<<20, 0)}, {comb("spin"), "point", nil, point(1, 0)},
		{comb("min"), "bytes", []api.Value{raw("b"), raw("ab"), raw("a"), raw("a\x00")}, some(raw("a"))}, {comb("max"), "bytes", []api.Value{raw("ab"), raw("b"), raw("a"), raw("b")}, some(raw("b"))}, {comb("min"), "option(int)", []api.Value{some(num(1)), none}, some(none)}, {comb("max"), "option(int)", []api.Value{none, some(num(1)), some(num(-1))}, some(some(num(1)))},
		{comb("all"), "int", nums(3, 1, 3, -2), row(nums(-2, 1, 3, 3)...)}, {comb("set"), "int", nums(3, 1, 3, -2), row(nums(-2, 1, 3)...)}, {top(3), "int", nums(3, 1, 3, -2), row(nums(3, 3, 1)...)}, {top(1), "bool", []api.Value{flag(0), flag(1)}, row(flag(1))},
		{joint(comb("min"), comb("mean")), "int", nums(9, 4), two(some(num(4)), num(6))}, {joint(joint(comb("max"), comb("count")), joint(top(2), comb("sum"))), "int", nums(9, 4, 9), two(two(some(num(9)), num(3)), two(row(nums(9, 9)...), num(22)))}, {joint(joint(comb("mean"), comb("mean")), comb("count")), "int", nil, two(two(num(0), num(0)), num(0))},
	} {
		o := work(t, x.c, x.of)
		acc, e := o.Add(o.Create(), x.values...)
		out, ee := o.Extract(acc)
		wantValue(t, plainText(x.c), out, e+ee, x.want)
	}
}

// P8.3: nothing comes of no values: no least one, no greatest one, a mean of 0.
func TestOfNone(t *testing.T) {
	for s, want := range map[string]api.Value{"count": num(0), "sum": num(0), "mean": num(0), "min": none, "max": none, "all": row(), "set": row()} {
		o := work(t, comb(s), "int")
		for _, acc := range []api.Value{o.Create(), plainAcc(comb(s), nil)} {
			out, e := o.Extract(acc)
			wantValue(t, s, out, e, want)
		}
	}
}

// P8.3: sums and counts go round past the ends of an int, those in a mean too.
func TestPastTheEnds(t *testing.T) {
	sum, count, mean := work(t, comb("sum"), "int"), work(t, comb("count"), "int"), work(t, comb("mean"), "int")
	acc, e := sum.Add(num(most), nums(1)...)
	wantValue(t, "sum", acc, e, num(least))
	acc, e = sum.Add(num(least), nums(-1, -1)...)
	wantValue(t, "sum", acc, e, num(most-1))
	acc, e = sum.Merge(nums(most, most, most)...)
	wantValue(t, "sum", acc, e, num(most-2))
	acc, e = sum.Merge(nums(least, least)...)
	wantValue(t, "sum", acc, e, num(0))
	acc, e = count.Add(num(most), nums(7, 7)...)
	wantValue(t, "count", acc, e, num(least+1))
	acc, e = count.Merge(nums(most, most)...)
	wantValue(t, "count", acc, e, num(-2))
	acc, e = count.Merge(nums(least, least, -5)...)
	wantValue(t, "count", acc, e, num(-5))
	acc, e = mean.Add(two(num(most), num(most)), nums(2)...)
	wantValue(t, "mean", acc, e, two(num(least+1), num(least)))
	acc, e = mean.Merge(two(num(least), num(-1)), two(num(-1), num(least)))
	wantValue(t, "mean", acc, e, two(num(most), num(most)))
}

// P8.3: the sum by the count, cut towards 0, whatever both are; the least int by -1 goes round.
func TestQuotients(t *testing.T) {
	o := work(t, comb("mean"), "int")
	for _, x := range [][3]int{{7, 2, 3}, {-7, 2, -3}, {7, -2, -3}, {-7, -2, 3}, {-1, 2, 0}, {1, 3, 0}, {-6, 3, -2}, {5, 0, 0}, {-5, 0, 0}, {0, 0, 0}, {least, 0, 0}, {0, 5, 0}, {least, -1, least}, {least, 1, least}, {most, -1, -most}, {least, least, 1}, {most, least, 0}, {least, most, -1}, {least + 1, 2, -most / 2}} {
		out, e := o.Extract(two(num(x[0]), num(x[1])))
		wantValue(t, "Extract", out, e, num(x[2]))
	}
	acc, e := o.Add(o.Create(), nums(-5, -3, -3)...)
	wantValue(t, "Add", acc, e, two(num(-11), num(3)))
	out, e := o.Extract(acc)
	wantValue(t, "Extract", out, e, num(-3))
	r := rand.New(rand.NewSource(7))
	edges := []int{least, least + 1, -3, -2, -1, 0, 1, 2, 3, most - 1, most}
	for range 1000 {
		acc := two(num(edges[r.Intn(11)]), num([]int{edges[r.Intn(11)], r.Int() >> r.Intn(63)}[r.Intn(2)]))
		out, e := o.Extract(acc)
		wantValue(t, "Extract", out, e, plainOutcome(comb("mean"), acc))
	}
}

// rising are the ints from one on, as many as said.
func rising(from, many int) []api.Value {
	var all []api.Value
	for n := range many {
		all = append(all, num(from+n))
	}
	return all
}

// falling are the ints from one on, downwards.
func falling(from, many int) []api.Value {
	all := rising(from-many+1, many)
	slices.Reverse(all)
	return all
}

// P8.3: just as many values as are kept, and one more, wherever that one stands in the order.
func TestKept(t *testing.T) {
	for _, x := range []struct {
		c    Comb
		keep int
		down bool
	}{{comb("min"), 1, false}, {comb("max"), 1, true}, {comb("all"), 16, false}, {comb("set"), 16, false}, {top(1), 1, true}, {top(2), 2, true}, {top(15), 15, true}, {top(16), 16, true}} {
		o := work(t, x.c, "int")
		values := rising(10, x.keep)
		if x.down {
			slices.Reverse(values)
		}
		holding := func(values []api.Value) api.Value {
			if x.c.Name == "min" || x.c.Name == "max" {
				return some(values[0])
			}
			return row(values[:x.keep]...)
		}
		acc, e := o.Add(o.Create(), values...)
		wantValue(t, plainText(x.c), acc, e, holding(values))
		for n := 9; n <= 10+x.keep; n++ {
			all := plainSorted(slices.Concat(values, nums(n)))
			if x.c.Name == "set" {
				all = plainUnlike(all)
			}
			if x.down {
				slices.Reverse(all)
			}
			got, e := o.Add(acc, num(n))
			wantValue(t, plainText(x.c)+" and one more", got, e, holding(all))
			single, _ := o.Add(o.Create(), num(n))
			got, e = o.Merge(single, acc)
			wantValue(t, plainText(x.c)+" and one more", got, e, holding(all))
		}
	}
	acc, e := work(t, top(16), "int").Add(row(), rising(0, 100)...)
	wantValue(t, "top(16)", acc, e, row(falling(99, 16)...))
	acc, e = work(t, comb("all"), "int").Add(row(), falling(99, 100)...)
	wantValue(t, "all", acc, e, row(rising(0, 16)...))
}

// P8.3: equal ones stay in all and top, and are one in set, however often they come and by whatever way.
func TestEqual(t *testing.T) {
	all, set, most3 := work(t, comb("all"), "int"), work(t, comb("set"), "int"), work(t, top(3), "int")
	acc, e := all.Add(all.Create(), times(20, num(5))...)
	wantValue(t, "all", acc, e, row(times(16, num(5))...))
	acc, e = all.Add(acc, num(4))
	wantValue(t, "all", acc, e, row(append(nums(4), times(15, num(5))...)...))
	acc, e = most3.Add(most3.Create(), nums(5, 5, 4, 5, 5)...)
	wantValue(t, "top(3)", acc, e, row(nums(5, 5, 5)...))
	acc, e = most3.Merge(row(nums(5, 4)...), row(nums(6, 5)...))
	wantValue(t, "top(3)", acc, e, row(nums(6, 5, 5)...))
	acc, e = set.Add(set.Create(), times(20, num(5))...)
	wantValue(t, "set", acc, e, row(num(5)))
	acc, e = set.Add(acc, num(5))
	wantValue(t, "set", acc, e, row(num(5)))
	acc, e = set.Merge(row(nums(4, 5, 6)...), row(nums(3, 5)...), row(nums(5)...))
	wantValue(t, "set", acc, e, row(nums(3, 4, 5, 6)...))
	acc, e = set.Add(set.Create(), append(rising(0, 16), rising(0, 16)...)...)
	wantValue(t, "set", acc, e, row(rising(0, 16)...))
	lists := work(t, comb("set"), "list(option(text))")
	one, other := row(some(letters("a")), none), row(some(letters("a")))
	acc, e = lists.Add(lists.Create(), one, other, one, other, row())
	wantValue(t, "set", acc, e, row(row(), other, one))
}

// P8.3: a value of a size of 16 is kept, one of 17 is passed over; count counts both.
func TestSizes(t *testing.T) {
	for _, c := range []Comb{comb("min"), comb("max"), comb("all"), comb("set"), top(1), top(16)} {
		o := work(t, c, "list(int)")
		for n := range 3 {
			great, small, tiny := sized(17, n), sized(16, 1), sized(2, 7)
			if plainSize(great) != 17 || plainSize(small) != 16 || plainSize(tiny) != 2 {
				t.Fatal("the test's own sizes")
			}
			acc, e := o.Add(o.Create(), great)
			wantValue(t, plainText(c)+", 17", acc, e, o.Create())
			acc, e = o.Add(o.Create(), great, small, great)
			want := row(small)
			if c.Name == "min" || c.Name == "max" {
				want = some(small)
			}
			wantValue(t, plainText(c)+", 16 and 17", acc, e, want)
			values := []api.Value{great, tiny, sized(64, n), small, sized(65, n)}
			acc, e = o.Add(o.Create(), values...)
			wantValue(t, plainText(c)+", many sizes", acc, e, plainAcc(c, values))
		}
	}
	o := work(t, joint(comb("count"), comb("max")), "list(list(int))")
	huge := row(slices.Repeat([]api.Value{row(times(30, num(1))...)}, 64)...)
	acc, e := o.Add(o.Create(), huge, row(row()), huge)
	wantValue(t, "count and max", acc, e, two(num(3), some(row(row()))))
	acc, e = o.Add(o.Create(), row(huge.List[:1]...), row(row(times(14, num(1))...)), row(row(times(15, num(2))...)))
	wantValue(t, "count and max, 16 and 17 in two lists", acc, e, two(num(3), some(row(row(times(14, num(1))...)))))
}

// P8.3: as great an accumulator as there may be is merged with others like it.
func TestGreatest(t *testing.T) {
	c := joint(joint(comb("all"), comb("set")), joint(top(16), comb("all")))
	o := work(t, c, "list(int)")
	var values []api.Value
	for n := range 40 {
		values = append(values, sized(16, n))
	}
	one, e := o.Add(o.Create(), values[:20]...)
	wantValue(t, "Add", one, e, plainAcc(c, values[:20]))
	other, e := o.Add(o.Create(), values[20:]...)
	wantValue(t, "Add", other, e, plainAcc(c, values[20:]))
	acc, e := o.Merge(other, one)
	wantValue(t, "Merge", acc, e, plainAcc(c, values))
	if plainSize(acc) != 3+4*(1+16*16) {
		t.Errorf("a size of %d", plainSize(acc))
	}
}

// P8.3: many values, and many accumulators, at once.
func TestMany(t *testing.T) {
	c := joint(joint(comb("all"), comb("set")), joint(top(5), comb("mean")))
	o := work(t, c, "int")
	r := rand.New(rand.NewSource(8))
	values := bag(r, typeOf("int"), 20000)
	acc, e := o.Add(o.Create(), values...)
	wantValue(t, "Add", acc, e, plainAcc(c, values))
	var accs []api.Value
	for _, v := range values {
		accs = append(accs, plainAcc(c, []api.Value{v}))
	}
	acc, e = o.Merge(accs...)
	wantValue(t, "Merge", acc, e, plainAcc(c, values))
}
