package plan

import (
	"fmt"
	"math/rand"
	"slices"
	"strings"
	"testing"
	"unsafe"

	"watershed/api"
	"watershed/denote"
	"watershed/graph"
	"watershed/valid"
)

// roomy tells values in other memory, with spare room behind all lists.
func roomy(values []api.Value) []api.Value {
	all := make([]api.Value, 0, len(values)+2)
	for _, v := range values {
		v.Text, v.List = strings.Clone(v.Text), roomy(v.List)
		all = append(all, v)
	}
	spare := all[len(all):cap(all)]
	for i := range spare {
		spare[i] = num(4711)
	}
	return all
}

// roomyOuts tells values of a node in other memory, with spare room behind all lists.
func roomyOuts(list []denote.Out) []denote.Out {
	all := make([]denote.Out, 0, len(list)+2)
	for _, x := range list {
		x.Value = roomy([]api.Value{x.Value})[0]
		all = append(all, x)
	}
	spare := all[len(all):cap(all)]
	for i := range spare {
		spare[i] = denote.Out{Value: num(4711), Time: 4711}
	}
	return all
}

// roomyInput tells an input in other memory, with spare room behind all lists.
func roomyInput(input [][]denote.Item) [][]denote.Item {
	all := make([][]denote.Item, 0, len(input)+2)
	for _, items := range input {
		more := make([]denote.Item, 0, len(items)+2)
		for _, x := range items {
			more = append(more, denote.Item{Value: roomy([]api.Value{x.Value})[0], Time: x.Time})
		}
		spare := more[len(more):cap(more)]
		for i := range spare {
			spare[i] = denote.Item{Value: num(4711), Time: 4711}
		}
		all = append(all, more)
	}
	spare := all[len(all):cap(all)]
	for i := range spare {
		spare[i] = []denote.Item{{Value: num(4711), Time: 4711}}
	}
	return all
}

// seenValues tells all that is in values, their spare room too.
func seenValues(values []api.Value) string {
	s := fmt.Sprint(len(values))
	for _, v := range values[:cap(values)] {
		s += fmt.Sprintf("(%d %d %q %v %s)", v.Kind, v.Int, v.Text, v.Point, seenValues(v.List))
	}
	return s
}

func seenOuts(list []denote.Out) string {
	s := fmt.Sprint(len(list))
	for _, x := range list[:cap(list)] {
		s += fmt.Sprint("{", x.Time, x.Win, seenValues([]api.Value{x.Value}), "}")
	}
	return s
}

func seenInput(input [][]denote.Item) string {
	s := fmt.Sprint(len(input))
	for _, items := range input[:cap(input)] {
		s += fmt.Sprint("[", len(items))
		for _, x := range items[:cap(items)] {
			s += fmt.Sprint("{", x.Time, seenValues([]api.Value{x.Value}), "}")
		}
	}
	return s
}

// taken are the places in memory that were told or handed in up to now.
type taken map[unsafe.Pointer]bool

func (t taken) note(p unsafe.Pointer) (shared bool) {
	shared = t[p]
	t[p] = true
	return shared
}

// value tells whether a value has memory that was taken before, and takes it.
func (t taken) value(v api.Value) (shared bool) {
	if v.Text != "" {
		shared = t.note(unsafe.Pointer(unsafe.StringData(v.Text)))
	}
	all := v.List[:cap(v.List)]
	for i := range all {
		shared = t.note(unsafe.Pointer(&all[i])) || shared
		shared = t.value(all[i]) || shared
	}
	return shared
}

func (t taken) outs(list []denote.Out) (shared bool) {
	all := list[:cap(list)]
	for i := range all {
		shared = t.note(unsafe.Pointer(&all[i])) || shared
		shared = t.value(all[i].Value) || shared
	}
	return shared
}

func (t taken) lists(lists [][]denote.Out) (shared bool) {
	all := lists[:cap(lists)]
	for i := range all {
		shared = t.note(unsafe.Pointer(&all[i])) || shared
		shared = t.outs(all[i]) || shared
	}
	return shared
}

func (t taken) result(r Result) (shared bool) {
	for _, all := range [][][]denote.Out{r.Outs, r.Sinks, r.Kept} {
		shared = t.lists(all) || shared
	}
	return shared
}

func (t taken) input(input [][]denote.Item) {
	for _, items := range input[:cap(input)] {
		all := items[:cap(items)]
		for i := range all {
			t.note(unsafe.Pointer(&all[i]))
			t.value(all[i].Value)
		}
	}
}

func (t taken) places(places []int) (shared bool) {
	all := places[:cap(places)]
	for i := range all {
		shared = t.note(unsafe.Pointer(&all[i])) || shared
	}
	return shared
}

func (t taken) stages(stages []Stage) (shared bool) {
	all := stages[:cap(stages)]
	for i, s := range all {
		shared = t.note(unsafe.Pointer(&all[i])) || shared
		for _, places := range [][]int{s.Nodes, s.Outs, s.Sinks, s.Kept} {
			shared = t.places(places) || shared
		}
	}
	return shared
}

// scribble writes over all that stands in the lists of values, spare room too.
func scribble(values []api.Value) {
	all := values[:cap(values)]
	for i := range all {
		scribble(all[i].List)
		all[i] = text("scribbled")
	}
}

func scribbleOuts(list []denote.Out) {
	all := list[:cap(list)]
	for i := range all {
		scribble(all[i].Value.List)
		all[i] = denote.Out{Value: text("scribbled"), Time: -4711}
	}
}

func scribbleResult(r Result) {
	for _, all := range [][][]denote.Out{r.Outs, r.Sinks, r.Kept} {
		for _, outs := range all {
			scribbleOuts(outs)
		}
		clear(all[:cap(all)])
	}
}

func scribbleInput(input [][]denote.Item) {
	for _, items := range input[:cap(input)] {
		all := items[:cap(items)]
		for i := range all {
			scribble(all[i].Value.List)
			all[i] = denote.Item{Value: text("scribbled"), Time: -4711}
		}
	}
}

func scribblePlaces(places []int) {
	all := places[:cap(places)]
	for i := range all {
		all[i] = -4711
	}
}

func scribbleStages(stages []Stage) {
	for _, s := range stages {
		for _, places := range [][]int{s.Nodes, s.Outs, s.Sinks, s.Kept} {
			scribblePlaces(places)
		}
	}
	clear(stages[:cap(stages)])
}

// rich are the lines of a pipeline in which lists and texts go through nodes of all Ops, and to several of Outs, Sinks and Kept at once.
func rich() []string {
	return []string{
		"source pair(text,list(text))", "window 0 2 10 5 0", "flatten 0", "each 1 0,1 list(it,pair(first(it),cons(first(it),second(it))))", "flatten 1,3",
		"group 4 0 0 0 acc both(all,min)", "window 0 3 5 0 0", "group 6 0 0 0 dis all", "sink 4", "sink 5", "sink 5", "each 5 0,3 concat(map(side(0),x,x),side(1))", "source text", "sink 12",
		"sink 11", "sink 7", "each 12 12 list(it)", "sink 16", "sink 12", "each 0 - list(it,it)", "flatten 0,19", "sink 20", "sink 0", "group 20 0 0 0 acc all", "sink 23", "group 0 0 0 0 acc set", "sink 25",
	}
}

// richInput is an input of that pipeline.
func richInput() [][]denote.Item {
	var items []denote.Item
	for i := range 9 {
		items = append(items, denote.Item{Value: pair(text("keys"[i%3:]), list(text("abcdefghijkl"[i:]), text("xyz"))), Time: i * 3})
	}
	items = append(items, items...)
	return [][]denote.Item{items, all(5, text("b"), text("a"), text("b"))}
}

// richPlan tells that pipeline, and its plan.
func richPlan(t *testing.T) (*valid.Valid, *Plan) {
	t.Helper()
	v := made(t, rich()...)
	return v, Make(v)
}

// headValues tells the values of each stage's head.
func headValues(v *valid.Valid, p *Plan, input [][]denote.Item) [][]denote.Out {
	have, _ := denote.Run(v, input)
	var all [][]denote.Out
	for _, s := range p.Stages() {
		all = append(all, have[s.Head])
	}
	return all
}

// P14.4: nothing that Run and Batch are handed is changed, right or not, its spare room neither.
func TestUntouched(t *testing.T) {
	v, p := richPlan(t)
	for number, values := range headValues(v, p, richInput()) {
		bad := append(roomyOuts(values), denote.Out{Value: num(5), Time: -1})
		for _, values := range [][]denote.Out{values, bad} {
			for _, stage := range []int{number, -1, api.MaxNodes} {
				values := roomyOuts(values)
				slices.Reverse(values)
				before := seenOuts(values)
				p.Run(stage, values...)
				if seenOuts(values) != before {
					t.Errorf("values of the stage %d were changed", number)
				}
			}
		}
	}
	wrong, late := roomyInput(richInput()), roomyInput(richInput())
	wrong[0][7].Value.List[1] = list(num(5))
	late[1][1].Time = -1
	for _, input := range [][][]denote.Item{richInput(), wrong, late, richInput()[:1]} {
		input = roomyInput(input)
		before := seenInput(input)
		p.Batch(input)
		if seenInput(input) != before {
			t.Errorf("an input was changed")
		}
	}
}

// P14.4: whatever the pipeline is, nothing that is handed in is changed, and what is told shares no memory.
func TestAnyMemory(t *testing.T) {
	r := rand.New(rand.NewSource(18))
	for range 40 {
		v := anyPipe(r)
		p, input := Make(v), roomyInput(anyInput(r, v))
		before, seen := seenInput(input), taken{}
		seen.input(input)
		for range 2 {
			if got, e := p.Batch(input); e != api.OK || seen.lists(got) || seenInput(input) != before {
				t.Errorf("Batch of\n%sshares memory or changed its input", show(v))
			}
		}
		for number, values := range headValues(v, p, input) {
			values = roomyOuts(values)
			before, seen := seenOuts(values), taken{}
			seen.outs(values)
			for range 2 {
				if seen.result(run(t, p, number, values...)) || seenOuts(values) != before {
					t.Errorf("Run of the stage %d of\n%sshares memory or changed its values", number, show(v))
				}
			}
		}
	}
}

// P14.4: what Run tells shares no memory: not with the values, not with other answers, and no two lists or values in it, though one value may come to many places.
func TestRunMemory(t *testing.T) {
	v, p := richPlan(t)
	for number, values := range headValues(v, p, richInput()) {
		values = roomyOuts(values)
		seen := taken{}
		seen.outs(values)
		for range 3 {
			r := run(t, p, number, values...)
			if len(values) == 0 || len(r.Outs)+len(r.Sinks)+len(r.Kept) == 0 {
				t.Fatalf("nothing becomes of the stage %d", number)
			}
			if seen.result(r) {
				t.Errorf("what Run of the stage %d told shares memory", number)
			}
		}
	}
	if r := run(t, p, 0, headValues(v, p, richInput())[0]...); len(r.Outs) < 4 || len(r.Sinks) < 3 || len(r.Kept) < 2 {
		t.Errorf("the first stage has only %d, %d and %d lists", len(r.Outs), len(r.Sinks), len(r.Kept))
	}
}

// P14.4: what was handed in, and what was told, may be changed: that doesn't show in what was told, nor in what is told behind it.
func TestRunApart(t *testing.T) {
	v, p := richPlan(t)
	for number, values := range headValues(v, p, richInput()) {
		want := result(run(t, p, number, values...))
		for range 3 {
			given := roomyOuts(values)
			r := run(t, p, number, given...)
			scribbleOuts(given)
			if result(r) != want {
				t.Errorf("Run: %s; want %s", result(r), want)
			}
			scribbleResult(r)
		}
	}
}

// P14.4: what Batch tells shares no memory, and hangs on nothing that is changed behind it.
func TestBatchMemory(t *testing.T) {
	_, p := richPlan(t)
	first, _ := p.Batch(richInput())
	want := lists(first)
	for range 3 {
		input := roomyInput(richInput())
		seen := taken{}
		seen.input(input)
		got, e := p.Batch(input)
		again, _ := p.Batch(input)
		if e != api.OK || seen.lists(got) || seen.lists(again) {
			t.Errorf("what Batch told shares memory")
		}
		scribbleInput(input)
		if lists(got) != want || slices.ContainsFunc(got, func(outs []denote.Out) bool { return len(outs) == 0 }) {
			t.Errorf("Batch: %s; want %s", lists(got), want)
		}
		for _, outs := range got {
			scribbleOuts(outs)
		}
		clear(got[:cap(got)])
	}
}

// P14.4: stages and what feeds a head are told in new memory, which may be changed.
func TestStagesMemory(t *testing.T) {
	v, p := richPlan(t)
	want, wantBatch := stages(p), ""
	if got, e := p.Batch(richInput()); e == api.OK {
		wantBatch = lists(got)
	}
	feeds := func() string {
		s := ""
		for i := range v.Len() {
			s += fmt.Sprint(p.Feeds(i))
		}
		return s
	}
	wantFeeds := feeds()
	seen := taken{}
	for range 3 {
		if seen.stages(p.Stages()) {
			t.Errorf("what Stages told shares memory")
		}
		scribbleStages(p.Stages())
		for i := range v.Len() {
			got := p.Feeds(i)
			if seen.places(got) {
				t.Errorf("what Feeds told shares memory")
			}
			scribblePlaces(got)
		}
		if !slices.Equal(stages(p), want) || feeds() != wantFeeds {
			t.Errorf("the stages are\n%s; want\n%s", strings.Join(stages(p), "\n"), strings.Join(want, "\n"))
		}
		if got, e := p.Batch(richInput()); e != api.OK || lists(got) != wantBatch {
			t.Errorf("Batch: %s, %d", lists(got), e)
		}
	}
}

// P14.4: a plan keeps nothing that its pipeline tells, or was made of.
func TestMakeMemory(t *testing.T) {
	_, good := richPlan(t)
	raw, _, _ := graph.Parse(strings.Join(rich(), "\n") + "\n")
	v, _, _ := valid.New(raw)
	p := Make(v)
	told := v.Pipeline()
	for _, nodes := range [][]graph.Node{raw.Nodes, told.Nodes} {
		for i := range nodes {
			scribblePlaces(nodes[i].In)
			scribblePlaces(nodes[i].Side)
			nodes[i] = graph.Node{Op: graph.Sink}
		}
	}
	want, _ := good.Batch(richInput())
	if got, e := p.Batch(richInput()); e != api.OK || lists(got) != lists(want) || !slices.Equal(stages(p), stages(good)) {
		t.Errorf("Batch: %s, %d; want %s", lists(got), e, lists(want))
	}
}
