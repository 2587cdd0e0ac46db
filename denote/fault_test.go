package denote

import (
	"math"
	"slices"
	"strings"
	"testing"

	"watershed/api"
	"watershed/valid"
)

// wantCheck: Check has this to say of an input, and Run refuses it with the same.
func wantCheck(t *testing.T, what string, v *valid.Valid, input [][]Item, source, place int, want api.Errno) {
	t.Helper()
	if s, p, e := Check(v, input); s != source || p != place || e != want {
		t.Errorf("Check of %s: %d, %d, %d; want %d, %d, %d", what, s, p, e, source, place, want)
	}
	outs, e := Run(v, input)
	if e != want || (want != api.OK && outs != nil) || (want == api.OK && len(outs) != v.Len()) {
		t.Errorf("Run of %s: %d lists, %d; want %d", what, len(outs), e, want)
	}
}

// P13.1: there must be as many lists as Sources, live or not, and whatever is in them.
func TestLists(t *testing.T) {
	for many, v := range map[int]*valid.Valid{
		1: made(t, "source int"),
		2: made(t, "source int", "source text", "sink 0"),
		3: made(t, "source int", "each 0 - list(it)", "source int", "source int", "flatten 1,2", "sink 4"),
	} {
		for n := range 6 {
			want := api.ErrInput
			if n == many {
				want = api.OK
			}
			wantCheck(t, "empty lists", v, make([][]Item, n), 0, 0, want)
			input := make([][]Item, n)
			for k := range input {
				input[k] = []Item{}
			}
			wantCheck(t, "empty lists that are not nil", v, input, 0, 0, want)
			if n > 0 && want != api.OK {
				input[n-1] = []Item{{num(1), 1}, {api.Value{}, -1}}
				wantCheck(t, "lists with faults", v, input, 0, 0, api.ErrInput)
			}
		}
		wantCheck(t, "no input", v, nil, 0, 0, api.ErrInput)
	}
}

// P13.1: an item's value must be of its Source's type.
func TestItemType(t *testing.T) {
	values := map[string][]api.Value{
		"bool": {truth(0), truth(1)}, "int": {num(0), num(-1 << 63)}, "text": {text(""), text(strings.Repeat("x", api.MaxText))}, "bytes": {octets("\x00")},
		"point": {{Kind: api.Point, Point: complex(-1<<20, 1<<20-1)}}, "pair(int,text)": {pair(num(1), text(""))}, "list(int)": {list(num(1)), list(nums(make([]int, api.MaxList)...)...)},
		"list(text)": {list(text("a"), text("b"))}, "option(int)": {some(num(1))}, "option(text)": {some(text(""))}, "list(list(option(pair(int,int))))": {list(list(), list(none, some(two(1, 2))))},
	}
	for of := range values {
		v := made(t, "source "+of)
		for other, those := range values {
			for _, x := range those {
				if of == other {
					wantCheck(t, say(x), v, [][]Item{all(5, those[0], x)}, 0, 0, api.OK)
				} else {
					wantCheck(t, say(x), v, [][]Item{all(5, values[of][0], x)}, 0, 1, api.ErrItem)
				}
			}
		}
	}
	// The empty list and None are of many types.
	for _, of := range []string{"list(int)", "list(text)", "list(list(int))"} {
		wantCheck(t, "the empty list", made(t, "source "+of), [][]Item{all(5, list(), none)}, 0, 1, api.ErrItem)
	}
	wantCheck(t, "None", made(t, "source option(int)"), [][]Item{all(5, none, list())}, 0, 1, api.ErrItem)
}

// P13.1: what is no right value is of no type.
func TestItemWrong(t *testing.T) {
	for of, values := range map[string][]api.Value{
		"int":           {{}, {Kind: -1}, {Kind: 10}, {Kind: api.Int, Text: "a"}, {Kind: api.Int, List: []api.Value{none}}, {Kind: api.Int, Point: 1}},
		"bool":          {truth(2), truth(-1)},
		"text":          {text(strings.Repeat("x", api.MaxText+1)), {Kind: api.Text, Int: 1}},
		"bytes":         {octets(strings.Repeat("\x00", api.MaxText+1))},
		"point":         {{Kind: api.Point, Point: 0.5}, {Kind: api.Point, Point: 1 << 20}, {Kind: api.Point, Point: complex(math.NaN(), 0)}, {Kind: api.Point, Point: complex(0, math.Inf(1))}},
		"list(int)":     {list(nums(make([]int, api.MaxList+1)...)...), list(text("")), list(num(1), api.Value{})},
		"option(int)":   {{Kind: api.Some}, some(text("")), {Kind: api.None, Int: 1}, ring()},
		"pair(int,int)": {{Kind: api.Pair}, {Kind: api.Pair, List: nums(1)}, {Kind: api.Pair, List: nums(1, 2, 3)}, ring()},
	} {
		v := made(t, "source "+of)
		for _, x := range values {
			wantCheck(t, "a wrong value", v, [][]Item{all(5, x)}, 0, 0, api.ErrItem)
		}
	}
}

// P13.1: an item's value has a size of at most MaxItem.
func TestItemSize(t *testing.T) {
	v := made(t, "source list(list(int))")
	for size, want := range map[int]api.Errno{66: api.OK, 399: api.OK, api.MaxItem: api.OK, api.MaxItem + 1: api.ErrItem, 402: api.ErrItem, api.MaxSize: api.ErrItem, api.MaxSize + 1: api.ErrItem} {
		place := 0
		if want != api.OK {
			place = 1
		}
		wantCheck(t, "a value of a size", v, [][]Item{all(5, list(), sized(size))}, 0, place, want)
	}
}

// P13.1: an item's time is from 0 to MaxTime.
func TestItemTime(t *testing.T) {
	v := made(t, "source int")
	for _, time := range []int{0, 1, api.MaxTime - 1, api.MaxTime} {
		wantCheck(t, "a time", v, [][]Item{at(1, 5, 1, time)}, 0, 0, api.OK)
	}
	for _, time := range []int{-1, -2, math.MinInt, api.MaxTime + 1, 2 * api.MaxTime, 1 << 32, 1<<32 + 5, math.MaxInt} {
		wantCheck(t, "no time", v, [][]Item{at(1, 5, 1, time)}, 0, 1, api.ErrTime)
	}
}

// P13.1: of several faults that of the first list is named, and in it that of the first place; of one item that of its value.
func TestFirstFault(t *testing.T) {
	v := made(t, "source int", "source text", "source list(list(int))", "sink 1")
	good := [][]Item{at(1, 0, 2, 5, 3, 6), all(7, text("a"), text("b")), all(8, sized(400), list())}
	wantCheck(t, "a right input", v, good, 0, 0, api.OK)
	type fault struct {
		source, place int
		x             Item
		e             api.Errno
	}
	faults := []fault{
		{0, 0, Item{text("a"), 5}, api.ErrItem}, {0, 0, Item{num(1), -1}, api.ErrTime}, {0, 0, Item{text("a"), -1}, api.ErrItem},
		{0, 2, Item{none, 5}, api.ErrItem}, {0, 2, Item{num(1), api.MaxTime + 1}, api.ErrTime},
		{1, 0, Item{num(1), 5}, api.ErrItem}, {1, 1, Item{text("a"), -5}, api.ErrTime}, {1, 1, Item{num(1), -5}, api.ErrItem},
		{2, 0, Item{sized(401), 5}, api.ErrItem}, {2, 0, Item{sized(401), -1}, api.ErrItem}, {2, 1, Item{sized(400), -1}, api.ErrTime},
	}
	for i, a := range faults {
		for _, b := range faults[i:] {
			input := [][]Item{slices.Clone(good[0]), slices.Clone(good[1]), slices.Clone(good[2])}
			input[b.source][b.place] = b.x
			input[a.source][a.place] = a.x
			wantCheck(t, "faults", v, input, a.source, a.place, a.e)
		}
	}
}

// P13.1: each Source has its own type, by the order of places.
func TestSourcesTypes(t *testing.T) {
	v := made(t, "source text", "each 0 - list(it)", "source int", "source text", "sink 2")
	wantCheck(t, "in their order", v, [][]Item{all(5, text("a")), at(1, 5), all(5, text("a"))}, 0, 0, api.OK)
	wantCheck(t, "in another order", v, [][]Item{all(5, text("a")), all(5, text("a")), at(1, 5)}, 1, 0, api.ErrItem)
	wantCheck(t, "in another order", v, [][]Item{nil, nil, at(1, 5)}, 2, 0, api.ErrItem)
	wantCheck(t, "in another order", v, [][]Item{at(1, 5), nil, nil}, 0, 0, api.ErrItem)
}
