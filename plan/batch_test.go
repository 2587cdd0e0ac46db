package plan

import (
	"math"
	"slices"
	"testing"

	"watershed/api"
	"watershed/denote"
)

// P14.3: the chapter's own example.
func TestBatchExample(t *testing.T) {
	wantBatch(t, made(t, example()...), [][]denote.Item{pairsAt(1, 5, 3, 2, 4, 9, 1, -3, 7)}, "always 1048576 (1,list(-5,-3,3,5)); always 1048576 (2,list(-4,4))")
}

// P14.3: the document's examples of the whole, whatever the trigger is.
func TestBatchWhole(t *testing.T) {
	for _, trig := range []string{"0 0 0 acc", "2 0 0 acc", "0 1 5 acc", "0 1 5 dis", "0 0 0 dis"} {
		v := made(t, pairs, "window 0 1 10 0 0", "group 1 "+trig+" sum", "sink 2")
		wantBatch(t, v, [][]denote.Item{pairsAt(1, 5, 3, 1, 6, 12, 1, 7, 4)}, "0..10 9 (1,12); 10..20 19 (1,6)")
	}
	v := made(t, pairs, "window 0 3 5 0 0", "group 1 0 0 0 acc sum", "sink 2", "sink 1")
	wantBatch(t, v, [][]denote.Item{pairsAt(1, 1, 3, 1, 2, 6, 1, 4, 20)}, "3..11 10 (1,3); 20..25 24 (1,4)", "3..8 3 (1,1); 6..11 6 (1,2); 20..25 20 (1,4)")
}

// P14.3: several Sources and Sinks, by their places, whatever stands between them; Sources that are not live have lists, too.
func TestBatchMany(t *testing.T) {
	v := made(t, "source text", "source int", "sink 1", "source bool", "source int", "each 4 - list(it,neg(it))", "flatten 1,5", "sink 6", "source point", "sink 4", "sink 6")
	input := [][]denote.Item{all(1, text("a")), at(1, 5, 2, 3), all(1, truth(1)), at(7, 4), nil}
	flat := "always 3 2; always 4 -7; always 4 7; always 5 1"
	wantBatch(t, v, input, "always 3 2; always 5 1", flat, "always 4 7", flat)
	wantBatch(t, v, [][]denote.Item{nil, {}, nil, at(7, 4), {}}, "", "always 4 -7; always 4 7", "always 4 7", "always 4 -7; always 4 7")
	wantBatch(t, v, make([][]denote.Item, 5), "", "", "", "")
}

// P14.3: Sinks to which nothing comes have nothing.
func TestBatchNothing(t *testing.T) {
	v := made(t, pairs, "each 0 - nil(pair(int,int))", "group 1 0 0 0 acc sum", "each 2 0 list(it)", "sink 3", "sink 2", "sink 1", "sink 0", "each 1 0 side(0)", "sink 8")
	wantBatch(t, v, [][]denote.Item{pairsAt(1, 5, 3)}, "", "", "", "always 3 (1,5)", "")
	wantBatch(t, v, [][]denote.Item{nil}, "", "", "", "", "")
}

// P14.3: a Group has all that comes to it, of whatever stages: what stands in two of them is put together once.
func TestBatchGroup(t *testing.T) {
	v := made(t, pairs, pairs, "group 1 0 0 0 acc sum", "flatten 0,1,2", "group 3 0 0 0 acc both(sum,count)", "sink 4", "sink 3")
	wantBatch(t, v, [][]denote.Item{pairsAt(1, 5, 3, 2, 1, 4), pairsAt(1, 10, 3, 1, 20, 6)},
		"always 1048576 (1,(65,4)); always 1048576 (2,(1,1))", "always 3 (1,5); always 3 (1,10); always 4 (2,1); always 6 (1,20); always 1048576 (1,30)")
	// A Group of Groups, by keys that another Each has turned.
	v = made(t, pairs, "window 0 1 10 0 0", "group 1 0 0 0 acc sum", "each 2 - list(pair(mod(first(it),2),second(it)))", "group 3 0 0 0 acc all", "sink 4")
	wantBatch(t, v, [][]denote.Item{pairsAt(1, 5, 3, 3, 1, 4, 2, 2, 5, 1, 1, 9, 1, 8, 11)}, "0..10 9 (0,list(2)); 0..10 9 (1,list(1,6)); 10..20 19 (1,list(8))")
}

// P14.3: an Each with a Side sees what layer 13 says: the least of the node's values, in the window in which its own looks things up.
func TestBatchSide(t *testing.T) {
	v := made(t, "source int", "source int", "window 1 1 10 0 0", "window 0 1 5 0 0", "each 3 2 list(pair(it,side(0)))", "sink 4")
	input := [][]denote.Item{at(1, 3, 2, 7, 3, 12, 4, 25), at(9, 1, 8, 9, 7, 10, 6, 19, 6, 14)}
	wantBatch(t, v, input, "0..5 3 (1,list(8,9)); 5..10 7 (2,list(8,9)); 10..15 12 (3,list(6,6,7)); 25..30 25 (4,list())")
	// By Sliding it is the last window of the side that has the stamp.
	v = made(t, "source int", "source int", "window 1 2 10 5 0", "each 0 2 list(len(side(0)))", "window 0 1 10 0 0", "each 4 2 list(pair(it,side(0)))", "sink 5", "sink 3")
	wantBatch(t, v, [][]denote.Item{at(1, 3), at(9, 1, 8, 6, 7, 9, 6, 12, 5, 1048576)}, "0..10 3 (1,list(6,7,8))", "always 3 1")
	// A side that several stages have together: with the values of all of them.
	v = made(t, "source int", "source int", "flatten 0,1", "each 2 2 list(pair(it,side(0)))", "sink 3")
	wantBatch(t, v, [][]denote.Item{at(3, 1), at(1, 5, 2, 0)}, "always 0 (2,list(1,2,3)); always 1 (3,list(1,2,3)); always 5 (1,list(1,2,3))")
	// At most 16 values are seen, none with a size above 16.
	v = made(t, "source list(list(int))", "each 0 0 list(map(side(0),x,len(x)))", "sink 1")
	items := all(1, list(list(nums(make([]int, 14)...)...)), list(list(nums(make([]int, 15)...)...)), list(list(), list(), list()), list())
	want := "always 1 list(0,3,1)" // in the order of the values, of which the list of 15 is too great
	wantBatch(t, v, [][]denote.Item{items}, want+"; "+want+"; "+want+"; "+want)
	v = made(t, "source int", "each 0 0 list(len(side(0)))", "sink 1")
	for many, want := range map[int]string{1: "always 0 1", 2: "always 0 2; always 0 2"} {
		wantBatch(t, v, [][]denote.Item{at(make([]int, 2*many)...)}, want)
	}
	if got, e := Make(v).Batch([][]denote.Item{at(make([]int, 40)...)}); e != api.OK || len(got[0]) != 20 || got[0][0].Value.Int != 16 {
		t.Errorf("Batch of 20: %s, %d", lists(got), e)
	}
}

// P14.3: several sides, in their order, at Groups and at Eachs with a Side themselves, one behind the other.
func TestBatchSides(t *testing.T) {
	v := made(t, pairs, "source int", "group 0 0 0 0 acc sum", "each 1 2 list(pair(it,len(side(0))))", "each 3 1,2,3 list(pair(len(side(0)),pair(side(2),side(1))))", "sink 4", "each 0 - list(it)")
	seen := "(2,(list((4,2),(6,2)),list((1,7),(2,9))))"
	wantBatch(t, v, [][]denote.Item{pairsAt(1, 3, 0, 2, 9, 5, 1, 4, 8), at(4, 3, 6, 1)}, "always 1 "+seen+"; always 3 "+seen)
	// An Each that looks at a node that has nothing, and one to which nothing comes.
	wantBatch(t, v, [][]denote.Item{nil, at(4, 3)}, "always 3 (1,(list((4,0)),list()))")
	wantBatch(t, v, [][]denote.Item{pairsAt(1, 3, 0), nil}, "")
}

// P14.3: what an Each with a Side emits is cut as that of all others.
func TestBatchEmits(t *testing.T) {
	v := made(t, "source int", "each 0 0 map(range(it),x,add(x,len(side(0))))", "each 0 0 list(if(lt(it,0),fold(range(64),0,a,x,add(a,fold(range(64),0,b,y,add(b,y)))),it))", "each 0 0 list(map(range(it),x,range(it)))", "sink 1", "sink 2", "sink 3")
	got, e := Make(v).Batch([][]denote.Item{at(-1, 1, 9, 2, 1, 3, 30, 4)})
	if e != api.OK || lists(got) != lists(sunk(t, v, [][]denote.Item{at(-1, 1, 9, 2, 1, 3, 30, 4)})) {
		t.Errorf("Batch: %s, %d", lists(got), e)
	}
	wantLists(t, "Batch", got[:2], "always 2 4; always 2 5; always 2 6; always 2 7; always 3 4; always 4 4; always 4 5; always 4 6; always 4 7", "always 2 9; always 3 1; always 4 30")
	if len(got[2]) != 3 {
		t.Errorf("Batch: of 4 values, one too great, %d are there", len(got[2]))
	}
}

// wantNoBatch: the input is refused, with layer 13's error.
func wantNoBatch(t *testing.T, p *Plan, want api.Errno, input ...[]denote.Item) {
	t.Helper()
	if got, e := p.Batch(input); got != nil || e != want {
		t.Errorf("Batch of %v: %s, %d; want %d", input, lists(got), e, want)
	}
}

// P14.3: each error of layer 13's Check, and two of them at once: the first that it names.
func TestBatchRefused(t *testing.T) {
	p := planned(t, "source int", "source text", "source int", "sink 0", "flatten 2", "sink 4")
	ints, texts := at(1, 2), all(5, text("a"))
	if got, e := p.Batch([][]denote.Item{ints, texts, ints}); e != api.OK || len(got) != 2 {
		t.Errorf("Batch: %s, %d", lists(got), e)
	}
	for _, input := range [][][]denote.Item{nil, {}, {ints}, {ints, texts}, {ints, texts, ints, nil}, {nil, nil}, {texts, at(1, -1)}, {ints, texts, ints, ints, at(1, -1)}} {
		wantNoBatch(t, p, api.ErrInput, input...)
	}
	item, time := append(slices.Clone(ints), texts...), append(slices.Clone(ints), at(1, -1)...)
	both := all(-1, text("a"))
	wantNoBatch(t, p, api.ErrItem, item, texts, ints)
	wantNoBatch(t, p, api.ErrItem, ints, texts, item)
	// The list of a Source that is not live is looked at, too.
	wantNoBatch(t, p, api.ErrItem, ints, ints, ints)
	wantNoBatch(t, p, api.ErrTime, ints, all(api.MaxTime+1, text("a")), ints)
	wantNoBatch(t, p, api.ErrTime, time, texts, ints)
	wantNoBatch(t, p, api.ErrItem, both, texts, ints)
	wantNoBatch(t, p, api.ErrItem, item, texts, time)
	wantNoBatch(t, p, api.ErrTime, time, texts, item)
	wantNoBatch(t, p, api.ErrTime, append(slices.Clone(time), item...), texts, ints)
	wantNoBatch(t, p, api.ErrItem, append(slices.Clone(item), time...), texts, ints)
	for _, x := range []int{-1, api.MaxTime + 1, math.MinInt, math.MaxInt} {
		wantNoBatch(t, p, api.ErrTime, at(1, x), texts, ints)
	}
	for _, x := range []api.Value{{}, ring(), {Kind: api.Int, Text: "x"}, none, list(num(1))} {
		wantNoBatch(t, p, api.ErrItem, all(3, x), texts, ints)
	}
}

// P14.3: an item's value may be just as great as MaxItem, its time 0 and MaxTime.
func TestBatchEdges(t *testing.T) {
	v := made(t, "source list(list(int))", "window 0 1 10 0 0", "each 1 - list(len(it))", "sink 2", "sink 0")
	just := sized(api.MaxItem)
	wantBatch(t, v, [][]denote.Item{slices.Concat(all(0, just), all(api.MaxTime, list()))}, "0..10 0 7; 1048570..1048580 1048576 0", "always 0 "+say(just)+"; always 1048576 list()")
	wantNoBatch(t, Make(v), api.ErrItem, all(0, just, sized(api.MaxItem+1)))
}

// P14.3: what is told hangs on the input alone, not on other calls ahead of it.
func TestBatchAgain(t *testing.T) {
	v := made(t, pairs, "group 0 0 0 0 acc all", "each 0 0,1 list(side(0))", "sink 1", "sink 2")
	p := Make(v)
	input := [][]denote.Item{pairsAt(1, 5, 3, 1, 6, 4)}
	first, _ := p.Batch(input)
	for range 3 {
		p.Batch([][]denote.Item{pairsAt(7, 7, 7)})
		p.Batch([][]denote.Item{at(7, 7)})
		p.Run(0, outs(always, 3, two(9, 9))...)
		if again, e := p.Batch(input); e != api.OK || lists(again) != lists(first) {
			t.Errorf("Batch: %s, %d; ahead of that %s", lists(again), e, lists(first))
		}
	}
}
