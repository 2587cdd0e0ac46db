package denote

import (
	"fmt"
	"math/rand"
	"strings"
	"testing"
	"unsafe"

	"watershed/api"
	"watershed/graph"
	"watershed/valid"
)

// roomy tells values in other memory, with spare room behind all lists.
func roomy(values []api.Value) []api.Value {
	all := make([]api.Value, 0, len(values)+2)
	for _, v := range values {
		v.Text, v.List = strings.Clone(v.Text), roomy(v.List)
		all = append(all, v)
	}
	spare := all[len(all):cap(all)]
	for i := range spare {
		spare[i] = num(4711)
	}
	return all
}

// roomyOuts tells values of a node in other memory, with spare room behind all lists.
func roomyOuts(list []Out) []Out {
	all := make([]Out, 0, len(list)+2)
	for _, x := range list {
		x.Value = roomy([]api.Value{x.Value})[0]
		all = append(all, x)
	}
	spare := all[len(all):cap(all)]
	for i := range spare {
		spare[i] = Out{Value: num(4711), Time: 4711}
	}
	return all
}

// roomyInput tells an input in other memory, with spare room behind all lists.
func roomyInput(input [][]Item) [][]Item {
	all := make([][]Item, 0, len(input)+2)
	for _, items := range input {
		more := make([]Item, 0, len(items)+2)
		for _, x := range items {
			more = append(more, Item{roomy([]api.Value{x.Value})[0], x.Time})
		}
		spare := more[len(more):cap(more)]
		for i := range spare {
			spare[i] = Item{num(4711), 4711}
		}
		all = append(all, more)
	}
	spare := all[len(all):cap(all)]
	for i := range spare {
		spare[i] = []Item{{num(4711), 4711}}
	}
	return all
}

// seenValues tells all that is in values, their spare room too.
func seenValues(values []api.Value) string {
	s := fmt.Sprint(len(values))
	for _, v := range values[:cap(values)] {
		s += fmt.Sprintf("(%d %d %q %v %s)", v.Kind, v.Int, v.Text, v.Point, seenValues(v.List))
	}
	return s
}

func seenOuts(list []Out) string {
	s := fmt.Sprint(len(list))
	for _, x := range list[:cap(list)] {
		s += fmt.Sprint("{", x.Time, x.Win, seenValues([]api.Value{x.Value}), "}")
	}
	return s
}

func seenInput(input [][]Item) string {
	s := fmt.Sprint(len(input))
	for _, items := range input[:cap(input)] {
		s += fmt.Sprint("[", len(items))
		for _, x := range items[:cap(items)] {
			s += fmt.Sprint("{", x.Time, seenValues([]api.Value{x.Value}), "}")
		}
	}
	return s
}

// taken are the places in memory that were told or handed in up to now.
type taken map[unsafe.Pointer]bool

func (t taken) note(p unsafe.Pointer) (shared bool) {
	shared = t[p]
	t[p] = true
	return shared
}

// values tells whether the lists and texts of values have memory that was taken before, and takes it.
func (t taken) values(values []api.Value) (shared bool) {
	all := values[:cap(values)]
	for i, v := range all {
		shared = t.note(unsafe.Pointer(&all[i])) || shared
		if v.Text != "" {
			shared = t.note(unsafe.Pointer(unsafe.StringData(v.Text))) || shared
		}
		shared = t.values(v.List) || shared
	}
	return shared
}

func (t taken) outs(list []Out) (shared bool) {
	all := list[:cap(list)]
	for i, x := range all {
		shared = t.note(unsafe.Pointer(&all[i])) || shared
		shared = t.values(x.Value.List) || shared
		if x.Value.Text != "" {
			shared = t.note(unsafe.Pointer(unsafe.StringData(x.Value.Text))) || shared
		}
	}
	return shared
}

func (t taken) lists(lists [][]Out) (shared bool) {
	all := lists[:cap(lists)]
	for i := range all {
		shared = t.note(unsafe.Pointer(&all[i])) || shared
		shared = t.outs(all[i]) || shared
	}
	return shared
}

func (t taken) input(input [][]Item) {
	for _, items := range input[:cap(input)] {
		for i, x := range items[:cap(items)] {
			t.note(unsafe.Pointer(&items[:cap(items)][i]))
			t.values(x.Value.List)
			if x.Value.Text != "" {
				t.note(unsafe.Pointer(unsafe.StringData(x.Value.Text)))
			}
		}
	}
}

// scribble writes over all that stands in the lists of values, spare room too.
func scribble(values []api.Value) {
	all := values[:cap(values)]
	for i := range all {
		scribble(all[i].List)
		all[i] = text("scribbled")
	}
}

func scribbleOuts(list []Out) {
	all := list[:cap(list)]
	for i := range all {
		scribble(all[i].Value.List)
		all[i] = Out{Value: text("scribbled"), Time: -4711}
	}
}

func scribbleInput(input [][]Item) {
	for _, items := range input[:cap(input)] {
		all := items[:cap(items)]
		for i := range all {
			scribble(all[i].Value.List)
			all[i] = Item{text("scribbled"), -4711}
		}
	}
}

// rich is a pipeline in which lists and texts go through nodes of all Ops.
func rich(t *testing.T) (*valid.Valid, [][]Item) {
	v := made(t,
		"source pair(text,list(text))", "window 0 2 10 5 0", "flatten 0", "each 1 0,1 list(it,pair(first(it),cons(first(it),second(it))))", "flatten 1,3",
		"group 4 0 0 0 acc both(all,min)", "window 0 3 5 0 0", "group 6 0 0 0 dis top(3)", "sink 4", "sink 5", "sink 5", "each 5 0,3 concat(map(side(0),x,x),side(1))", "source text", "sink 12")
	var items []Item
	for i := range 9 {
		items = append(items, Item{pair(text("keys"[i%3:]), list(text("abcdefghijkl"[i:]), text("xyz"))), i * 3})
	}
	items = append(items, items...)
	return v, [][]Item{items, all(5, text("b"), text("a"), text("b"))}
}

// P13.5: nothing that Check and Run are handed is changed, right or not, its spare room neither.
func TestRunUntouched(t *testing.T) {
	v, right := rich(t)
	wrong := roomyInput(right)
	wrong[0][7].Value.List[1] = list(num(5))
	late := roomyInput(right)
	late[1][1].Time = -1
	for _, input := range [][][]Item{right, wrong, late, right[:1]} {
		input = roomyInput(input)
		before := seenInput(input)
		Check(v, input)
		Run(v, input)
		if seenInput(input) != before {
			t.Errorf("an input was changed")
		}
	}
	r := rand.New(rand.NewSource(16))
	for range 50 {
		v := anyPipe(r)
		input := roomyInput(anyInput(r, v))
		before := seenInput(input)
		Run(v, input)
		if seenInput(input) != before {
			t.Errorf("an input was changed")
		}
	}
}

// P13.5: what Run tells shares no memory: not with the input, not with other answers, and no two lists or values in it.
func TestRunMemory(t *testing.T) {
	v, input := rich(t)
	input = roomyInput(input)
	seen := taken{}
	seen.input(input)
	for range 3 {
		all, e := Run(v, input)
		if e != api.OK || len(all[5]) == 0 || len(all[7]) == 0 || len(all[11]) == 0 {
			t.Fatalf("Run: %d", e)
		}
		if seen.lists(all) {
			t.Errorf("what Run told shares memory")
		}
	}
	r := rand.New(rand.NewSource(17))
	for range 50 {
		v := anyPipe(r)
		input := roomyInput(anyInput(r, v))
		seen := taken{}
		seen.input(input)
		for range 2 {
			if all, _ := Run(v, input); seen.lists(all) {
				s, _ := graph.Show(v.Pipeline())
				t.Errorf("what Run told of\n%s shares memory", s)
			}
		}
	}
}

// P13.5: what was handed in, and what was told, may be changed: that doesn't show in what was told, nor in what is told behind it.
func TestRunApart(t *testing.T) {
	v, input := rich(t)
	first, _ := Run(v, input)
	var want []string
	for _, have := range first {
		want = append(want, lines(have))
	}
	for range 3 {
		given := roomyInput(input)
		all, _ := Run(v, given)
		scribbleInput(given)
		for i := range all {
			if lines(all[i]) != want[i] {
				t.Errorf("the node %d has %s; want %s", i, lines(all[i]), want[i])
			}
			scribbleOuts(all[i])
		}
	}
}

// P13.5: Sort, Same and Least change nothing, and keep nothing.
func TestListsMemory(t *testing.T) {
	v, input := rich(t)
	all, _ := Run(v, input)
	for _, have := range append(all, rising()) {
		list, other := roomyOuts(have), roomyOuts(have)
		var values []api.Value
		for _, x := range have {
			values = append(values, x.Value)
		}
		values = roomy(values)
		before := seenOuts(list) + seenOuts(other) + seenValues(values)
		sorted, least := Sort(list...), Least(values...)
		Same(list, other)
		if seenOuts(list)+seenOuts(other)+seenValues(values) != before {
			t.Errorf("Sort, Same or Least changed what they were handed")
		}
		seen := taken{}
		seen.outs(list)
		seen.values(values)
		if seen.outs(sorted) || seen.values(least.List) || seen.outs(Sort(list...)) || seen.values(Least(values...).List) {
			t.Errorf("what Sort and Least told shares memory")
		}
		was, wasLeast := lines(sorted), say(least)
		scribbleOuts(list)
		scribble(values)
		if lines(sorted) != was || say(least) != wasLeast {
			t.Errorf("what Sort and Least told hangs on what they were handed")
		}
	}
}

// P13.5: Group and Emit change nothing, right or not, and keep nothing.
func TestCallsMemory(t *testing.T) {
	v, input := rich(t)
	all, _ := Run(v, input)
	bad := append(roomyOuts(all[4]), Out{num(5), 3, win(0, 10)})
	for _, i := range []int{5, 7} {
		in := all[v.Pipeline().Nodes[i].In[0]]
		for _, have := range [][]Out{in, bad} {
			have = roomyOuts(have)
			before := seenOuts(have)
			got, e := Group(v, i, have...)
			if seenOuts(have) != before {
				t.Errorf("Group changed what it was handed")
			}
			seen := taken{}
			seen.outs(have)
			again, _ := Group(v, i, have...)
			if seen.outs(got) || seen.outs(again) {
				t.Errorf("what Group told shares memory")
			}
			was := lines(got)
			scribbleOuts(have)
			scribbleOuts(again)
			if lines(got) != was || (e == api.OK) == (was == "") {
				t.Errorf("what Group told hangs on what it was handed")
			}
		}
	}
	for _, x := range bad {
		x := roomyOuts([]Out{x})[0]
		side := func() api.Value { return list(pair(text("side"), list(text("of"), text("lists")))) }
		sides := roomy([]api.Value{side(), side()})
		before := seenOuts([]Out{x}) + seenValues(sides)
		for _, i := range []int{3, 11} {
			got, _ := Emit(v, i, x, sides...)
			again, _ := Emit(v, i, x, sides...)
			if seenOuts([]Out{x})+seenValues(sides) != before {
				t.Errorf("Emit changed what it was handed")
			}
			seen := taken{}
			seen.outs([]Out{x})
			seen.values(sides)
			if seen.outs(got) || seen.outs(again) {
				t.Errorf("what Emit told shares memory")
			}
		}
	}
}

// P13.2, P13.4: what a call tells hangs on its arguments alone, not on other calls ahead of it.
func TestSameAgain(t *testing.T) {
	v, input := rich(t)
	first, _ := Run(v, input)
	other, _, _ := valid.New(v.Pipeline())
	Run(v, [][]Item{nil, nil})
	Group(v, 5, first[4]...)
	for _, w := range []*valid.Valid{v, other} {
		again, _ := Run(w, input)
		for i := range first {
			if lines(first[i]) != lines(again[i]) {
				t.Errorf("the node %d has %s; ahead of that %s", i, lines(again[i]), lines(first[i]))
			}
		}
	}
}
