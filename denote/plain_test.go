package denote

import (
	"cmp"
	"fmt"
	"math/rand"
	"slices"
	"strings"
	"testing"

	"watershed/api"
	"watershed/graph"
	"watershed/kind"
	"watershed/valid"
	"watershed/value"
	"watershed/window"
)

// plainOrder compares as the chapter says: by window, then by time, then by value.
func plainOrder(a, b Out) int {
	k, _ := value.Compare(a.Value, b.Value)
	return cmp.Or(cmp.Compare(a.Win.To, b.Win.To), cmp.Compare(a.Win.From, b.Win.From), cmp.Compare(a.Time, b.Time), k)
}

// plainSame: does each value of a have another one of b that is as it is, with none left?
func plainSame(a, b []Out) bool {
	left := slices.Clone(b)
	for _, x := range a {
		at := slices.IndexFunc(left, func(y Out) bool { return plainOrder(x, y) == 0 })
		if at < 0 {
			return false
		}
		left = slices.Delete(left, at, at+1)
	}
	return len(left) == 0
}

func sizeOf(v api.Value) int {
	size, _ := value.Size(v)
	return size
}

func equal(a, b api.Value) bool {
	k, e := value.Compare(a, b)
	return k == 0 && e == api.OK
}

// book is what the chapter says that the nodes of a pipeline have: set down a second time, by plain looking.
type book struct {
	v     *valid.Valid
	nodes []graph.Node
	input [][]Item
	have  map[int][]Out
}

// plainRun tells the values of each node.
func plainRun(v *valid.Valid, input [][]Item) [][]Out {
	b := book{v, v.Pipeline().Nodes, input, map[int][]Out{}}
	var all [][]Out
	for i := range b.nodes {
		all = append(all, b.of(i))
	}
	return all
}

// of tells the values of a node, asked for when it is needed.
func (b book) of(i int) []Out {
	if _, known := b.have[i]; !known {
		b.have[i] = slices.SortedFunc(slices.Values(b.come(i)), plainOrder)
	}
	return b.have[i]
}

func (b book) come(i int) (have []Out) {
	n := b.nodes[i]
	switch n.Op {
	case 1:
		ahead := 0
		for _, m := range b.nodes[:i] {
			if m.Op == 1 {
				ahead++
			}
		}
		for _, x := range b.input[ahead] {
			have = append(have, Out{x.Value, x.Time, window.Window{From: 0, To: 1<<20 + 1}})
		}
	case 2:
		for _, x := range b.of(n.In[0]) {
			have = append(have, b.emitted(i, x)...)
		}
	case 3:
		for _, x := range b.of(n.In[0]) {
			wins, _ := n.Fn.Assign(x.Time)
			for _, w := range wins {
				have = append(have, Out{x.Value, x.Time, w})
			}
		}
	case 4:
		win, _ := b.v.Win(i)
		have = plainGroup(b.v, i, win.Kind == 3, b.of(n.In[0]))
	default:
		for _, in := range n.In {
			have = append(have, b.of(in)...)
		}
	}
	return have
}

// emitted tells what an Each emits of x.
func (b book) emitted(i int, x Out) []Out {
	var sides []api.Value
	for _, at := range b.nodes[i].Side {
		win, _ := b.v.Win(at)
		w, e := win.Side(x.Win)
		if e != 0 {
			panic("no window to look at")
		}
		var there []api.Value
		for _, y := range b.of(at) {
			if y.Win == w {
				there = append(there, y.Value)
			}
		}
		sides = append(sides, plainLeast(there))
	}
	return plainEmit(b.v, i, x, sides)
}

// plainLeast takes the least one again and again.
func plainLeast(values []api.Value) api.Value {
	least := api.Value{Kind: api.List}
	left := slices.DeleteFunc(slices.Clone(values), func(v api.Value) bool { return sizeOf(v) > 16 })
	for len(left) > 0 && len(least.List) < 16 {
		at := 0
		for k := range left {
			if c, _ := value.Compare(left[k], left[at]); c < 0 {
				at = k
			}
		}
		least.List = append(least.List, left[at])
		left = slices.Delete(left, at, at+1)
	}
	return least
}

func plainEmit(v *valid.Valid, i int, x Out, sides []api.Value) []Out {
	fn, _ := v.Fn(i)
	answer, _, e := fn.Run(x.Value, sides...)
	if e == api.ErrFuel {
		return nil
	}
	if e != 0 {
		panic("a function that doesn't take its own values")
	}
	var emitted []Out
	for k, y := range answer.List {
		if k < 4 && sizeOf(y) <= 400 {
			emitted = append(emitted, Out{y, x.Time, x.Win})
		}
	}
	return emitted
}

// plainGroup makes heaps: each value is one by itself at first, and those of one key are laid together as long as their windows are to be one.
func plainGroup(v *valid.Valid, i int, sessions bool, values []Out) []Out {
	type heap struct {
		key api.Value
		win window.Window
		xs  []api.Value
	}
	var heaps []heap
	for _, x := range values {
		heaps = append(heaps, heap{x.Value.List[0], x.Win, []api.Value{x.Value.List[1]}})
	}
	one := func(a, b heap) bool {
		return equal(a.key, b.key) && (a.win == b.win || sessions && a.win.From < b.win.To && b.win.From < a.win.To)
	}
	for again := true; again; {
		again = false
		for a := 0; a < len(heaps); a++ {
			for b := a + 1; b < len(heaps); b++ {
				if one(heaps[a], heaps[b]) {
					heaps[a].win = window.Window{From: min(heaps[a].win.From, heaps[b].win.From), To: max(heaps[a].win.To, heaps[b].win.To)}
					heaps[a].xs = append(heaps[a].xs, heaps[b].xs...)
					heaps = slices.Delete(heaps, b, b+1)
					again = true
					b--
				}
			}
		}
	}
	op, _ := v.Op(i)
	var have []Out
	for _, h := range heaps {
		acc := op.Create()
		for _, x := range h.xs {
			acc, _ = op.Add(acc, x)
		}
		y, _ := op.Extract(acc)
		have = append(have, Out{pair(h.key, y), min(h.win.To-1, 1<<20), h.win})
	}
	return slices.SortedFunc(slices.Values(have), plainOrder)
}

// anyLine tells a line of a node that may read from any of so many nodes, and that may be right or not.
func anyLine(r *rand.Rand, many int) string {
	pick := func(of ...string) string { return of[r.Intn(len(of))] }
	in := func() int { return r.Intn(max(many, 1)) }
	places := func(most int) string {
		all := map[int]bool{}
		for range r.Intn(most + 1) {
			all[in()] = true
		}
		var texts []string
		for at := range many {
			if all[at] {
				texts = append(texts, fmt.Sprint(at))
			}
		}
		return strings.Join(texts, ",")
	}
	switch r.Intn(10) {
	case 0:
		return "source " + pick("int", "int", "pair(int,int)", "pair(int,int)", "text", "pair(text,int)", "list(int)", "pair(int,list(int))", "option(int)", "point", "bool")
	case 1, 2:
		return fmt.Sprint("window ", in(), " ", pick("0 0 0 0", "1 10 0 0", "1 7 0 3", "2 10 5 0", "2 6 4 1", "3 5 0 0", "3 2 0 0", "3 9 0 0"))
	case 3, 4:
		return fmt.Sprint("group ", in(), pick(" 0 0 0 acc ", " 0 0 0 dis ", " 2 1 5 acc "), pick("sum", "count", "mean", "min", "max", "all", "set", "top(2)", "both(sum,count)", "both(all,both(min,mean))", "spin"))
	case 5:
		return "flatten " + cmp.Or(places(3), fmt.Sprint(in()))
	case 6:
		return fmt.Sprint("sink ", in())
	}
	return fmt.Sprint("each ", in(), " ", cmp.Or(places(2), "-"), " ", pick(
		"list(it)", "list(it,it)", "list(pair(mod(it,3),it))", "list(first(it))", "list(pair(second(it),first(it)))", "range(it)", "it", "map(it,x,pair(x,len(it)))",
		"list(size(show(it)))", "list(pair(show(mod(it,2)),it))", "list(pair(size(it),it))", "list(pair(it,1))", "list(re(it))", "list(or_else(it,7))", "list(len(it))",
		"side(0)", "side(1)", "list(len(side(0)))", "list(pair(len(side(0)),it))", "list(pair(it,side(0)))", "list(pair(it,side(1)))", "map(side(0),x,pair(x,it))", "concat(side(0),list(it))", "list(pair(mod(len(side(0)),2),len(side(1))))",
		"if(lt(it,2),list(it),nil(int))", "if(lt(it,1),map(range(7),x,range(mul(it,60))),list(range(it)))", "list(fold(range(64),it,a,x,if(lt(it,2),add(a,fold(range(64),0,b,y,b)),a)))", "list(list(it,it,it,it,it,it,it,it),list(it,it))", "map(range(8),x,map(range(16),y,it))",
	))
}

// anyPipe tells a valid pipeline.
func anyPipe(r *rand.Rand) *valid.Valid {
	var lines []string
	var v *valid.Valid
	for range 60 {
		more := append(slices.Clone(lines), anyLine(r, len(lines)))
		p, _, e := graph.Parse(strings.Join(more, "\n") + "\n")
		if e != api.OK {
			continue
		}
		made, _, e := valid.New(p)
		if e == api.OK || e == api.ErrSink {
			lines = more
		}
		if e == api.OK {
			v = made
		}
	}
	if v == nil {
		return anyPipe(r)
	}
	return v
}

// anyValue tells a value of a type; of one type there are few of them.
func anyValue(r *rand.Rand, of kind.Type) api.Value {
	switch of.Kind {
	case api.Bool:
		return truth(r.Intn(2))
	case api.Int:
		return num(r.Intn(9) - 2)
	case api.Text:
		return text("abcab"[r.Intn(5):])
	case api.Point:
		return value.Point(r.Intn(4)-2, r.Intn(3)-1)
	case api.Pair:
		return pair(anyValue(r, of.Args[0]), anyValue(r, of.Args[1]))
	case api.Some:
		if r.Intn(3) == 0 {
			return none
		}
		return some(anyValue(r, of.Args[0]))
	}
	v := list()
	sizes := []int{0, 1, 2, 3, 12, 15, 17}
	if of.Args[0].Kind == api.List {
		sizes = []int{0, 1, 2}
	}
	for range sizes[r.Intn(len(sizes))] {
		v.List = append(v.List, anyValue(r, of.Args[0]))
	}
	return v
}

// anyInput tells an input of a valid pipeline, whose times are close together, but for a few.
func anyInput(r *rand.Rand, v *valid.Valid) [][]Item {
	var input [][]Item
	for _, of := range sources(v) {
		var items []Item
		for range r.Intn(12) * r.Intn(4) {
			items = append(items, Item{anyValue(r, of), r.Intn(40)})
		}
		for _, time := range []int{0, api.MaxTime, api.MaxTime - 1, 200} {
			if r.Intn(4) == 0 {
				items = append(items, Item{anyValue(r, of), time})
			}
		}
		input = append(input, items)
	}
	return input
}

// mixed tells the same items in another order.
func mixed(r *rand.Rand, input [][]Item) [][]Item {
	var other [][]Item
	for _, items := range input {
		items = slices.Clone(items)
		r.Shuffle(len(items), func(i, j int) { items[i], items[j] = items[j], items[i] })
		other = append(other, items)
	}
	return other
}

// P13.2: Run tells what the chapter says, of whatever pipeline and input, in whatever order the items come.
func TestPlain(t *testing.T) {
	r := rand.New(rand.NewSource(13))
	met := map[int]int{}
	for range 150 {
		v := anyPipe(r)
		input := anyInput(r, v)
		want := plainRun(v, input)
		for range 2 {
			got, e := Run(v, input)
			if e != api.OK || len(got) != len(want) {
				t.Fatalf("Run: %d lists, %d", len(got), e)
			}
			for i, n := range v.Pipeline().Nodes {
				if lines(got[i]) != lines(want[i]) {
					s, _ := graph.Show(v.Pipeline())
					t.Fatalf("the node %d of\n%s of %v has\n%s; want\n%s", i, s, input, lines(got[i]), lines(want[i]))
				}
				met[n.Op] += len(got[i])
				if n.Op == graph.Each && len(n.Side) > 0 {
					met[10+len(n.Side)] += len(got[i])
				}
				if win, _ := v.Win(i); n.Op == graph.Group {
					met[20+win.Kind] += len(got[i])
				}
			}
			input = mixed(r, input)
		}
	}
	for _, what := range []int{1, 2, 3, 4, 5, 6, 11, 12, 20, 21, 22, 23} {
		if met[what] < 200 {
			t.Errorf("only %d values of %d were met", met[what], what)
		}
	}
}

// P13.2, P13.3: what Run tells stands in order already, and is the same as itself in any other order.
func TestRunInOrder(t *testing.T) {
	r := rand.New(rand.NewSource(14))
	for range 100 {
		v := anyPipe(r)
		all, _ := Run(v, anyInput(r, v))
		for i, have := range all {
			turned := slices.Clone(have)
			slices.Reverse(turned)
			if lines(Sort(turned...)) != lines(have) || !Same(turned, have) {
				t.Errorf("the node %d doesn't stand in order: %s", i, lines(have))
			}
			if other := all[r.Intn(len(all))]; Same(have, other) != plainSame(have, other) {
				t.Errorf("Same(%s | %s): %v", lines(have), lines(other), Same(have, other))
			}
		}
	}
}

// P13.4: Group and Emit tell of a node's values what Run has of them, and what the chapter says of others.
func TestPlainCalls(t *testing.T) {
	r := rand.New(rand.NewSource(15))
	for range 150 {
		v := anyPipe(r)
		all, _ := Run(v, anyInput(r, v))
		for i, n := range v.Pipeline().Nodes {
			switch n.Op {
			case graph.Group:
				wantPlainGroup(t, r, v, i, all[n.In[0]], all[i])
			case graph.Each:
				wantPlainEmit(t, r, v, i, n, all)
			}
		}
	}
}

func wantPlainGroup(t *testing.T, r *rand.Rand, v *valid.Valid, i int, in, have []Out) {
	t.Helper()
	if got, e := Group(v, i, in...); e != api.OK || lines(got) != lines(have) {
		t.Errorf("Group: %s, %d; want %s", lines(got), e, lines(have))
	}
	var others []Out
	for _, x := range in {
		from := r.Intn(20) - 10
		others = append(others, Out{x.Value, r.Intn(9) - 5, win(from, from+1+r.Intn(8))})
	}
	fn, _ := v.Win(i)
	want := plainGroup(v, i, fn.Kind == window.Sessions, others)
	if got, e := Group(v, i, others...); e != api.OK || lines(got) != lines(want) {
		t.Errorf("Group of %s: %s, %d; want %s", lines(others), lines(got), e, lines(want))
	}
}

func wantPlainEmit(t *testing.T, r *rand.Rand, v *valid.Valid, i int, n graph.Node, all [][]Out) {
	t.Helper()
	for _, x := range all[n.In[0]] {
		var sides []api.Value
		for _, at := range n.Side {
			of, _ := v.Type(at)
			side := list()
			for range r.Intn(20) {
				side.List = append(side.List, anyValue(r, of))
			}
			sides = append(sides, side)
		}
		if slices.ContainsFunc(sides, func(s api.Value) bool { return value.Check(s) != api.OK }) {
			continue
		}
		want := plainEmit(v, i, x, sides)
		if got, e := Emit(v, i, x, sides...); e != api.OK || lines(got) != lines(want) {
			t.Errorf("Emit: %s, %d; want %s", lines(got), e, lines(want))
		}
	}
}
