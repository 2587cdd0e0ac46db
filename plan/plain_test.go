package plan

import (
	"cmp"
	"fmt"
	"math/rand"
	"slices"
	"strings"
	"testing"

	"watershed/api"
	"watershed/denote"
	"watershed/graph"
	"watershed/kind"
	"watershed/valid"
	"watershed/value"
	"watershed/window"
)

// book is what the chapter says of a plan: set down a second time, each time looked up from the nodes.
type book struct {
	v     *valid.Valid
	nodes []graph.Node
}

func bookOf(v *valid.Valid) book { return book{v, v.Pipeline().Nodes} }

// live: is it a Sink, or does a live node read from it?
func (b book) live(i int) bool {
	if b.nodes[i].Op == 6 {
		return true
	}
	for user, n := range b.nodes {
		if (slices.Contains(n.In, i) || slices.Contains(n.Side, i)) && b.live(user) {
			return true
		}
	}
	return false
}

func (b book) isHead(i int) bool {
	n := b.nodes[i]
	return b.live(i) && (n.Op == 1 || n.Op == 4 || n.Op == 2 && len(n.Side) > 0)
}

// fused: is it reached from the head by In alone, without another head between?
func (b book) fused(i, head int) bool {
	return b.live(i) && !b.isHead(i) && b.reads(i, head)
}

// reads: does it read by In from the head, or from a node that is fused behind it?
func (b book) reads(i, head int) bool {
	return slices.ContainsFunc(b.nodes[i].In, func(in int) bool { return in == head || b.fused(in, head) })
}

// looked: does a live node look at it?
func (b book) looked(i int) bool {
	for user, n := range b.nodes {
		if slices.Contains(n.Side, i) && b.live(user) {
			return true
		}
	}
	return false
}

// those tells the places for which this holds.
func (b book) those(holds func(i int) bool) []int {
	var places []int
	for i := range b.nodes {
		if holds(i) {
			places = append(places, i)
		}
	}
	return places
}

func (b book) heads() []int { return b.those(b.isHead) }

func (b book) stage(head int) Stage {
	fused := func(i int) bool { return b.fused(i, head) }
	return Stage{
		Head:  head,
		Nodes: b.those(fused),
		Outs:  b.those(func(i int) bool { return b.isHead(i) && b.reads(i, head) }),
		Sinks: b.those(func(i int) bool { return fused(i) && b.nodes[i].Op == 6 }),
		Kept:  b.those(func(i int) bool { return (fused(i) || i == head) && b.looked(i) }),
	}
}

// lifts: is it a live Group, not of Sessions, without an Early?
func (b book) lifts(i int) bool {
	fn, _ := b.v.Win(i)
	return b.nodes[i].Op == 4 && b.live(i) && fn.Kind != 3 && b.nodes[i].Trig.Early == 0
}

func (b book) feeds(i int) []int {
	var numbers []int
	for number, head := range b.heads() {
		if b.isHead(i) && b.reads(i, head) {
			numbers = append(numbers, number)
		}
	}
	return numbers
}

// alone tells what one value of the head becomes at the node i.
func (b book) alone(i, head int, x denote.Out) (have []denote.Out) {
	if i == head {
		return []denote.Out{x}
	}
	if !b.fused(i, head) {
		return nil
	}
	n := b.nodes[i]
	for _, in := range n.In {
		for _, y := range b.alone(in, head, x) {
			switch n.Op {
			case 2:
				have = append(have, plainEmit(b.v, i, y)...)
			case 3:
				wins, _ := n.Fn.Assign(y.Time)
				for _, w := range wins {
					have = append(have, denote.Out{Value: y.Value, Time: y.Time, Win: w})
				}
			default:
				have = append(have, y)
			}
		}
	}
	return have
}

// plainEmit tells what an Each without a Side emits.
func plainEmit(v *valid.Valid, i int, x denote.Out) (emitted []denote.Out) {
	fn, _ := v.Fn(i)
	answer, _, e := fn.Run(x.Value)
	if e != 0 && e != api.ErrFuel {
		panic("a function that doesn't take its own values")
	}
	for k, y := range answer.List {
		if size, _ := value.Size(y); k < 4 && size <= 400 {
			emitted = append(emitted, denote.Out{Value: y, Time: x.Time, Win: x.Win})
		}
	}
	return emitted
}

// plainOrder compares by window, then by time, then by value.
func plainOrder(a, b denote.Out) int {
	k, _ := value.Compare(a.Value, b.Value)
	return cmp.Or(cmp.Compare(a.Win.To, b.Win.To), cmp.Compare(a.Win.From, b.Win.From), cmp.Compare(a.Time, b.Time), k)
}

// run tells what becomes of values of the head, one by one.
func (b book) run(head int, values []denote.Out) Result {
	at := func(i int) []denote.Out {
		var have []denote.Out
		for _, x := range values {
			have = append(have, b.alone(i, head, x)...)
		}
		slices.SortFunc(have, plainOrder)
		return have
	}
	s := b.stage(head)
	var r Result
	for _, i := range s.Outs {
		r.Outs = append(r.Outs, at(b.nodes[i].In[0]))
	}
	for _, i := range s.Sinks {
		r.Sinks = append(r.Sinks, at(i))
	}
	for _, i := range s.Kept {
		r.Kept = append(r.Kept, at(i))
	}
	return r
}

// anyLine tells a line of a node that may read from any of so many nodes, and that may be right or not.
func anyLine(r *rand.Rand, many int) string {
	pick := func(of ...string) string { return of[r.Intn(len(of))] }
	in := func() int {
		if many > 3 && r.Intn(2) == 0 {
			return many - 1 - r.Intn(3)
		}
		return r.Intn(max(many, 1))
	}
	places := func(most int) string {
		all := make([]bool, max(many, 1))
		for range r.Intn(most + 1) {
			all[in()] = true
		}
		var texts []string
		for at := range many {
			if all[at] {
				texts = append(texts, fmt.Sprint(at))
			}
		}
		return strings.Join(texts, ",")
	}
	switch r.Intn(11) {
	case 0:
		return "source " + pick("int", "int", "pair(int,int)", "pair(int,int)", "text", "pair(text,int)", "list(int)", "pair(int,list(int))", "option(int)", "point", "bool")
	case 1:
		return fmt.Sprint("window ", in(), " ", pick("0 0 0 0", "1 10 0 0", "1 10 0 0", "1 7 0 3", "2 10 5 0", "2 6 4 1", "3 5 0 0", "3 9 0 0"))
	case 2, 3:
		return fmt.Sprint("group ", in(), pick(" 0 0 0 acc ", " 0 0 0 dis ", " 2 1 5 acc ", " 0 1 5 acc "), pick("sum", "count", "mean", "min", "max", "all", "set", "top(2)", "both(sum,count)", "both(all,both(min,mean))", "spin"))
	case 4, 5, 6:
		return "flatten " + cmp.Or(places(3), fmt.Sprint(in()))
	}
	return fmt.Sprint("each ", in(), " ", cmp.Or(places(2), "-"), " ", pick(
		"list(it)", "list(it)", "list(it,it)", "list(pair(mod(it,3),it))", "list(pair(mod(it,3),it))", "list(first(it))", "list(pair(second(it),first(it)))", "list(pair(second(it),first(it)),it)", "range(it)", "it", "map(it,x,pair(x,len(it)))",
		"list(size(show(it)))", "list(pair(show(mod(it,2)),it))", "list(pair(size(it),it))", "list(pair(it,1))", "list(re(it))", "list(or_else(it,7))", "list(len(it))",
		"side(0)", "side(1)", "list(len(side(0)))", "list(pair(len(side(0)),it))", "list(pair(it,side(0)))", "list(pair(it,side(1)))", "map(side(0),x,pair(x,it))", "concat(side(0),list(it))", "list(pair(mod(len(side(0)),2),len(side(1))))",
		"if(lt(it,2),list(it),nil(int))", "if(lt(it,1),map(range(7),x,range(mul(it,60))),list(range(it)))", "list(fold(range(64),it,a,x,if(lt(it,2),add(a,fold(range(64),0,b,y,b)),a)))", "list(list(it,it,it,it,it,it,it,it),list(it,it))",
	))
}

// beginnings are lines with which pipelines begin, so that what comes from several heads is met often enough.
func beginnings() [][]string {
	return [][]string{
		nil, nil,
		{"source pair(int,int)", "source pair(int,int)", "flatten 0,1", "group 2 0 0 0 acc sum", "sink 3"},
		{"source int", "source int", "each 0 1 list(it)", "flatten 0,1,2", "sink 3", "each 3 0 list(pair(it,it))"},
		{"source pair(int,int)", "window 0 1 10 0 0", "group 1 0 0 0 acc count", "flatten 1,2", "each 3 0 list(it)", "flatten 3,4"},
	}
}

// anyPipe tells a valid pipeline. Some of its nodes are sunk, others not.
func anyPipe(r *rand.Rand) *valid.Valid {
	var lines []string
	var v *valid.Valid
	lay := func(line string) {
		more := append(slices.Clone(lines), line)
		p, _, e := graph.Parse(strings.Join(more, "\n") + "\n")
		if e != api.OK {
			return
		}
		made, _, e := valid.New(p)
		if e == api.OK || e == api.ErrSink {
			lines = more
		}
		if e == api.OK {
			v = made
		}
	}
	for _, line := range beginnings()[r.Intn(len(beginnings()))] {
		lay(line)
	}
	for tries := range 80 {
		if len(lines) < 24 {
			lay(anyLine(r, len(lines)))
		}
		if tries%16 == 15 {
			lay(fmt.Sprint("sink ", r.Intn(len(lines)+1)))
		}
	}
	if v == nil {
		return anyPipe(r)
	}
	return v
}

// anyValue tells a value of a type; of one type there are few of them.
func anyValue(r *rand.Rand, of kind.Type) api.Value {
	switch of.Kind {
	case api.Bool:
		return truth(r.Intn(2))
	case api.Int:
		return num(r.Intn(9) - 2)
	case api.Text:
		return text("abcab"[r.Intn(5):])
	case api.Point:
		return value.Point(r.Intn(4)-2, r.Intn(3)-1)
	case api.Pair:
		return pair(anyValue(r, of.Args[0]), anyValue(r, of.Args[1]))
	case api.Some:
		if r.Intn(3) == 0 {
			return none
		}
		return some(anyValue(r, of.Args[0]))
	}
	v := list()
	sizes := []int{0, 1, 2, 3, 12, 15, 17}
	if kind, _ := kind.Depth(of.Args[0]); kind > 1 {
		sizes = []int{0, 1, 2}
	}
	for range sizes[r.Intn(len(sizes))] {
		v.List = append(v.List, anyValue(r, of.Args[0]))
	}
	return v
}

// anyInput tells an input of a valid pipeline, whose times are close together, but for a few.
func anyInput(r *rand.Rand, v *valid.Valid) [][]denote.Item {
	var input [][]denote.Item
	for _, n := range v.Pipeline().Nodes {
		if n.Op != graph.Source {
			continue
		}
		var items []denote.Item
		for range r.Intn(12) * r.Intn(4) {
			items = append(items, denote.Item{Value: anyValue(r, n.Type), Time: r.Intn(40)})
		}
		for _, time := range []int{0, api.MaxTime, api.MaxTime - 1, 200} {
			if r.Intn(4) == 0 {
				items = append(items, denote.Item{Value: anyValue(r, n.Type), Time: time})
			}
		}
		input = append(input, items)
	}
	return input
}

// anyValues tells values of a type, with any times and windows.
func anyValues(r *rand.Rand, of kind.Type, many int) []denote.Out {
	var all []denote.Out
	for range many {
		from := r.Intn(30) - 5
		x := denote.Out{Value: anyValue(r, of), Time: r.Intn(40), Win: win(from, from+1+r.Intn(20))}
		switch r.Intn(6) {
		case 0:
			x.Time = []int{0, api.MaxTime, api.MaxTime - 1}[r.Intn(3)]
		case 1:
			x.Win = []window.Window{always, win(-api.MaxTime, 2*api.MaxTime+1), win(2*api.MaxTime, 2*api.MaxTime+1)}[r.Intn(3)]
		}
		all = append(all, x)
	}
	return all
}

// shuffled tells the same in another order.
func shuffled[T any](r *rand.Rand, all []T) []T {
	all = slices.Clone(all)
	r.Shuffle(len(all), func(i, j int) { all[i], all[j] = all[j], all[i] })
	return all
}

// P14.1: the plan of whatever pipeline is as the chapter says.
func TestPlainPlan(t *testing.T) {
	r := rand.New(rand.NewSource(14))
	met := make([]int, 20)
	for range 800 {
		v := anyPipe(r)
		b, p := bookOf(v), Make(v)
		heads := b.heads()
		var want []string
		for _, head := range heads {
			want = append(want, stage(b.stage(head)))
		}
		if got := stages(p); !slices.Equal(got, want) {
			t.Fatalf("the stages of\n%sare\n%s; want\n%s", show(v), strings.Join(got, "\n"), strings.Join(want, "\n"))
		}
		for i := -2; i < len(b.nodes)+2; i++ {
			known := 0 <= i && i < len(b.nodes)
			number, is := p.Of(i)
			wantNumber := slices.Index(heads, i)
			if is != (wantNumber >= 0) || number != max(wantNumber, 0) {
				t.Errorf("Of(%d): %d, %v of\n%s", i, number, is, show(v))
			}
			if got := p.Live(i); got != (known && b.live(i)) {
				t.Errorf("Live(%d): %v of\n%s", i, got, show(v))
			}
			if got := p.Lifts(i); got != (known && b.lifts(i)) {
				t.Errorf("Lifts(%d): %v of\n%s", i, got, show(v))
			}
			if got := p.Feeds(i); known && !slices.Equal(got, b.feeds(i)) || !known && len(got) > 0 {
				t.Errorf("Feeds(%d): %v of\n%s", i, got, show(v))
			}
			if known {
				b.meet(i, met)
			}
		}
	}
	for what, many := range met {
		if many < 40 && what > 0 && what < 16 {
			t.Errorf("only %d of %d were met", many, what)
		}
	}
}

// meet counts what sort of node this is: so that the pipelines have enough of each.
func (b book) meet(i int, met []int) {
	n := b.nodes[i]
	for what, holds := range []bool{
		b.isHead(i) && n.Op == 1, b.isHead(i) && n.Op == 4, b.isHead(i) && n.Op == 2, !b.live(i) && n.Op == 1, !b.live(i) && n.Op == 2, !b.live(i) && n.Op == 2 && len(n.Side) > 0, !b.live(i) && n.Op == 4,
		n.Op == 5 && len(b.among(i)) > 1, n.Op == 5 && slices.ContainsFunc(b.among(i), func(head int) bool {
			return slices.ContainsFunc(n.In, func(in int) bool { return in != head && !b.fused(in, head) })
		}),
		b.isHead(i) && b.looked(i), !b.isHead(i) && b.looked(i), b.lifts(i), b.isHead(i) && n.Op == 4 && !b.lifts(i), len(b.feeds(i)) > 1, !b.looked(i) && len(b.lookers(i)) > 0,
	} {
		if holds {
			met[what+1]++
		}
	}
}

// among tells the heads behind which a node is fused.
func (b book) among(i int) []int {
	return b.those(func(head int) bool { return b.isHead(head) && b.fused(i, head) })
}

// lookers tells the nodes that look at one, live or not.
func (b book) lookers(i int) []int {
	return b.those(func(user int) bool { return slices.Contains(b.nodes[user].Side, i) })
}

// P14.2: Run tells what the chapter says, of whatever stage and values: of all together what it tells of them one by one.
func TestPlainRun(t *testing.T) {
	r := rand.New(rand.NewSource(15))
	met := [3]int{}
	for range 250 {
		v := anyPipe(r)
		b, p := bookOf(v), Make(v)
		for number, head := range b.heads() {
			of, _ := v.Type(head)
			values := anyValues(r, of, r.Intn(9))
			want := b.run(head, values)
			for range 2 {
				if got := run(t, p, number, values...); result(got) != result(want) {
					t.Fatalf("Run of the stage %d of\n%swith %s:\n%s\nwant\n%s", number, show(v), lines(values), result(got), result(want))
				}
				values = shuffled(r, values)
			}
			if got := oneByOne(t, p, number, values); len(values) > 0 && result(got) != result(want) {
				t.Errorf("Run, one by one:\n%s\nwant\n%s", result(got), result(want))
			}
			for k, lists := range [][][]denote.Out{want.Outs, want.Sinks, want.Kept} {
				for _, outs := range lists {
					met[k] += len(outs)
				}
			}
		}
	}
	if slices.Min(met[:]) < 1000 {
		t.Errorf("only %v values were met", met)
	}
}

// oneByOne lays together what Run tells of each of the values by itself.
func oneByOne(t *testing.T, p *Plan, number int, values []denote.Out) (whole Result) {
	t.Helper()
	for k, x := range values {
		r := run(t, p, number, x)
		if k == 0 {
			whole = r
			continue
		}
		for _, x := range []struct{ to, from [][]denote.Out }{{whole.Outs, r.Outs}, {whole.Sinks, r.Sinks}, {whole.Kept, r.Kept}} {
			for i, outs := range x.from {
				x.to[i] = append(x.to[i], outs...)
			}
		}
	}
	for _, all := range [][][]denote.Out{whole.Outs, whole.Sinks, whole.Kept} {
		for _, outs := range all {
			slices.SortFunc(outs, plainOrder)
		}
	}
	return whole
}

// P14.2: of the values that layer 13 has for a head, Run tells what layer 13 has for the nodes of its stage: all stages of a node together have just its values.
func TestRunMeans(t *testing.T) {
	r := rand.New(rand.NewSource(16))
	for range 150 {
		v := anyPipe(r)
		p, nodes := Make(v), v.Pipeline().Nodes
		have, _ := denote.Run(v, anyInput(r, v))
		come := make([][]denote.Out, v.Len()) // what comes to heads
		stay := make([][]denote.Out, v.Len()) // what comes to Sinks and Kept
		lie := func(to [][]denote.Out, places []int, outs [][]denote.Out) {
			if len(places) != len(outs) {
				t.Fatalf("%d lists for the places %v", len(outs), places)
			}
			for k, at := range places {
				to[at] = append(to[at], outs[k]...)
			}
		}
		for number, s := range p.Stages() {
			r := run(t, p, number, have[s.Head]...)
			lie(come, s.Outs, r.Outs)
			lie(stay, s.Sinks, r.Sinks)
			lie(stay, s.Kept, r.Kept)
		}
		for _, s := range p.Stages() {
			if nodes[s.Head].Op != graph.Source && !denote.Same(come[s.Head], have[nodes[s.Head].In[0]]) {
				t.Errorf("to the head %d of\n%scome %s; want %s", s.Head, show(v), lines(come[s.Head]), lines(have[nodes[s.Head].In[0]]))
			}
			for _, at := range slices.Concat(s.Sinks, s.Kept) {
				if !denote.Same(stay[at], have[at]) {
					t.Errorf("to the node %d of\n%scome %s; want %s", at, show(v), lines(stay[at]), lines(have[at]))
				}
			}
		}
	}
}

// P14.3: Batch tells for the Sinks what layer 13's Run tells, of whatever pipeline and input, in whatever order the items come.
func TestBatchMeans(t *testing.T) {
	r := rand.New(rand.NewSource(17))
	met := 0
	for range 400 {
		v := anyPipe(r)
		p, input := Make(v), anyInput(r, v)
		want := sunk(t, v, input)
		for range 2 {
			got, e := p.Batch(input)
			if e != api.OK || lists(got) != lists(want) {
				t.Fatalf("Batch of\n%swith %v: %s, %d; want %s", show(v), input, lists(got), e, lists(want))
			}
			for k := range input {
				input[k] = shuffled(r, input[k])
			}
		}
		for _, outs := range want {
			met += len(outs)
		}
	}
	if met < 20000 {
		t.Errorf("only %d values were met", met)
	}
}
