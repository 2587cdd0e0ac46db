package denote

import (
	"fmt"
	"slices"
	"testing"

	"watershed/api"
)

// seen tells what an Each sees of a side: of items that stand in Global's window. The type of the values is told, too.
func seen(t *testing.T, of string, items []Item) string {
	t.Helper()
	v := made(t, "source "+of, "source int", "each 1 0 list(side(0))")
	o := run(t, v, items, at(0, 0))
	if len(o[2]) != 1 {
		t.Fatalf("the Each emits %d values", len(o[2]))
	}
	return say(o[2][0].Value)
}

// wantSeen: an Each sees just these of these values.
func wantSeen(t *testing.T, of string, values []api.Value, want ...api.Value) {
	t.Helper()
	if got := seen(t, of, all(5, values...)); got != say(list(want...)) {
		t.Errorf("seen of %s: %s; want %s", say(list(values...)), got, say(list(want...)))
	}
	values = slices.Clone(values)
	slices.Reverse(values)
	if got := seen(t, of, all(5, values...)); got != say(list(want...)) {
		t.Errorf("seen of %s: %s; want %s", say(list(values...)), got, say(list(want...)))
	}
}

// P13.2: a side has the least 16 values, rising, whatever their times; equal ones as often as they are there.
func TestSideLeast(t *testing.T) {
	wantSeen(t, "int", nil)
	wantSeen(t, "int", nums(3), nums(3)...)
	wantSeen(t, "int", nums(3, 1, 2, 1, -1<<63, 3), nums(-1<<63, 1, 1, 2, 3, 3)...)
	var many []int
	for i := range 70 {
		many = append(many, i*29%70)
	}
	for _, n := range []int{15, 16, 17, 70} {
		sorted := slices.Sorted(slices.Values(many[:n]))
		wantSeen(t, "int", nums(many[:n]...), nums(sorted[:min(n, 16)]...)...)
	}
	wantSeen(t, "int", nums(slices.Repeat([]int{7}, 20)...), nums(slices.Repeat([]int{7}, 16)...)...)
	wantSeen(t, "int", nums(append(slices.Repeat([]int{7}, 16), 6, 8)...), nums(append([]int{6}, slices.Repeat([]int{7}, 15)...)...)...)
	// Times don't count: neither which ones are taken, nor how they stand.
	if got := seen(t, "int", at(5, 1, 4, 2, 3, 3, 2, 4, 5, 5)); got != "list(2,3,4,5,5)" {
		t.Errorf("seen of several times: %s", got)
	}
}

// P13.2: a side passes over values with a size above 16, ahead of counting.
func TestSideSize(t *testing.T) {
	small, just, above := list(nums(9)...), list(nums(make([]int, 15)...)...), list(nums(make([]int, 16)...)...)
	wantSeen(t, "list(int)", []api.Value{above})
	wantSeen(t, "list(int)", []api.Value{just}, just)
	wantSeen(t, "list(int)", []api.Value{small, above, just, above}, just, small)
	wantSeen(t, "list(int)", append(slices.Repeat([]api.Value{above}, 20), small), small)
	wantSeen(t, "list(int)", append(slices.Repeat([]api.Value{small}, 16), just, above), append([]api.Value{just}, slices.Repeat([]api.Value{small}, 15)...)...)
	wantSeen(t, "option(list(int))", []api.Value{some(list(nums(make([]int, 14)...)...)), some(just), none}, none, some(list(nums(make([]int, 14)...)...)))
	wantSeen(t, "pair(int,list(int))", []api.Value{pair(num(1), list(nums(make([]int, 13)...)...)), pair(num(1), list(nums(make([]int, 14)...)...))}, pair(num(1), list(nums(make([]int, 13)...)...)))
	wantSeen(t, "list(list(int))", []api.Value{sized(400), sized(66), list()}, list())
}

// P13.2: where a side is windowed as the Each is, each window sees its own; a window without values sees none.
func TestSideAlike(t *testing.T) {
	v := made(t, "source int", "source int", "window 0 1 10 0 0", "window 1 1 10 0 0", "each 2 3 list(pair(it,side(0)))")
	o := run(t, v, at(1, 3, 2, 9, 3, 10, 4, 25), at(10, 9, 20, 0, 30, 10, 40, 35))
	wantNode(t, o, 4, "0..10 3 (1,list(10,20))", "0..10 9 (2,list(10,20))", "10..20 10 (3,list(30))", "20..30 25 (4,list())")
	// By Sliding a window has not itself, but the last one that has its stamp.
	v = made(t, "source int", "window 0 2 10 5 0", "each 1 1 list(pair(it,side(0)))")
	wantNode(t, run(t, v, at(1, 3, 2, 6, 3, 12)), 2, "-5..5 3 (1,list(1,2))", "0..10 3 (1,list(2,3))", "0..10 6 (2,list(2,3))", "5..15 6 (2,list(3))", "5..15 12 (3,list(3))", "10..20 12 (3,list())")
}

// P13.2: where it is windowed otherwise, a window looks in the last one of the side's windows that has its stamp.
func TestSideOtherwise(t *testing.T) {
	main, side := at(1, 3, 2, 17), at(10, 2, 20, 4, 30, 9, 40, 12, 50, 19, 60, 1000)
	for _, x := range []struct {
		main, side string
		want       []string
	}{
		{"0 0 0 0", "0 0 0 0", []string{"always 3 (1,list(10,20,30,40,50,60))", "always 17 (2,list(10,20,30,40,50,60))"}},
		{"1 10 0 0", "0 0 0 0", []string{"0..10 3 (1,list(10,20,30,40,50,60))", "10..20 17 (2,list(10,20,30,40,50,60))"}},
		{"0 0 0 0", "1 10 0 0", []string{"always 3 (1,list())", "always 17 (2,list())"}},
		{"1 10 0 0", "1 5 0 0", []string{"0..10 3 (1,list(30))", "10..20 17 (2,list(50))"}},
		{"1 5 0 0", "1 10 0 0", []string{"0..5 3 (1,list(10,20,30))", "15..20 17 (2,list(40,50))"}},
		{"1 5 0 0", "1 10 0 3", []string{"0..5 3 (1,list(20,30,40))", "15..20 17 (2,list(50))"}},
		{"1 3 0 0", "1 10 0 3", []string{"3..6 3 (1,list(20,30,40))", "15..18 17 (2,list(50))"}},
		{"1 10 0 0", "2 10 5 0", []string{"0..10 3 (1,list(30,40))", "10..20 17 (2,list(50))"}},
		{"2 10 5 0", "1 10 0 0", []string{"-5..5 3 (1,list(10,20,30))", "0..10 3 (1,list(10,20,30))", "10..20 17 (2,list(40,50))", "15..25 17 (2,list())"}},
		{"3 5 0 0", "1 10 0 0", []string{"3..8 3 (1,list(10,20,30))", "17..22 17 (2,list())"}},
		{"3 5 0 0", "2 16 1 0", []string{"3..8 3 (1,list(30,40,50))", "17..22 17 (2,list())"}},
	} {
		v := made(t, "source int", "source int", "window 0 "+x.main, "window 1 "+x.side, "each 2 3 list(pair(it,side(0)))")
		o := run(t, v, main, side)
		wantNode(t, o, 4, x.want...)
	}
	// Of times at the end the stamp is MaxTime.
	v := made(t, "source int", "source int", "window 0 3 1000 0 0", "window 1 1 100 0 0", "each 2 3 list(pair(it,side(0)))")
	wantNode(t, run(t, v, at(1, api.MaxTime-3), at(10, api.MaxTime, 20, api.MaxTime-100)), 4, "1048573..1049573 1048573 (1,list(10))")
}

// P13.2: several sides stand in the order of their nodes' places; a side may be what the Each reads from.
func TestSides(t *testing.T) {
	v := made(t, "source int", "source text", "window 0 1 10 0 0", "window 1 1 20 0 0", "each 2 0,1,2,3 list(pair(pair(it,side(0)),pair(side(1),pair(side(2),side(3)))))")
	o := run(t, v, at(1, 3, 2, 12), all(15, text("b"), text("a")))
	wantNode(t, o, 4, `0..10 3 ((1,list(1,2)),(list("a","b"),(list(1),list("a","b"))))`, `10..20 12 ((2,list(1,2)),(list("a","b"),(list(2),list("a","b"))))`)
}

// P13.2: a side has what its node has, of whatever Op: what an Each emits, what a Group has at its stamps, all that comes to a Flatten.
func TestSideNodes(t *testing.T) {
	v := made(t, "source int", "window 0 1 10 0 0", "each 1 - list(pair(mod(it,2),it))", "group 2 0 0 0 acc sum", "flatten 2,3", "source int", "each 5 2,3,4 list(side(0),side(1),side(2))", "window 5 1 10 0 0", "each 7 2,3,4 list(side(0),side(1),side(2))")
	o := run(t, v, at(1, 3, 4, 5, 5, 7, 7, 12), at(0, 8, 0, 11))
	wantNode(t, o, 6, slices.Concat(slices.Repeat([]string{"always 8 list()"}, 3), slices.Repeat([]string{"always 11 list()"}, 3))...)
	wantNode(t, o, 8,
		"0..10 8 list((0,4),(0,4),(1,1),(1,5),(1,6))", "0..10 8 list((0,4),(1,1),(1,5))", "0..10 8 list((0,4),(1,6))",
		"10..20 11 list((1,7))", "10..20 11 list((1,7))", "10..20 11 list((1,7),(1,7))")
	// The sides of a Group's outcomes have their windows, though their times are the stamps.
	v = made(t, "source pair(int,int)", "group 0 0 0 0 acc sum", "source int", "window 2 3 5 0 0", "each 3 1 list(side(0))")
	wantNode(t, run(t, v, pairsAt(1, 2, 3, 1, 5, 4), at(0, 9)), 4, "9..14 9 list((1,7))")
	// Merged sessions look where their own stamps are.
	v = made(t, "source pair(int,int)", "window 0 3 5 0 0", "group 1 0 0 0 acc sum", "window 0 1 4 0 0", "each 2 3 list(pair(it,side(0)))")
	wantNode(t, run(t, v, pairsAt(1, 2, 3, 1, 5, 6, 2, 9, 10)), 4, "3..11 10 ((1,7),list((2,9)))", "10..15 14 ((2,9),list())")
}

// P13.2: what is too much for a side is there no more, but goes on in its node.
func TestSideOfMany(t *testing.T) {
	v := made(t, "source int", "window 0 1 10 0 0", "each 1 1 list(len(side(0)))", "sink 1")
	var items []Item
	for i := range 40 {
		items = append(items, Item{num(i), i % 10 * (i / 20 * 10)})
	}
	o := run(t, v, items)
	many := map[string]int{}
	for _, x := range o[2] {
		many[fmt.Sprint(x.Win.From, " ", say(x.Value))]++
	}
	if len(o[1]) != 40 || len(o[2]) != 40 || many["0 16"] != 22 || many["10 2"] != 2 {
		t.Errorf("there are %d values, of which come %v", len(o[1]), many)
	}
}
