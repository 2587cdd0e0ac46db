package graph

import (
	"slices"
	"testing"

	"watershed/api"
)

func wantPlaces(t *testing.T, what string, got []int, want ...int) {
	t.Helper()
	if !slices.Equal(got, want) {
		t.Errorf("%s: %v; want %v", what, got, want)
	}
}

// river has nodes of each Op, several Sinks, Sides, nodes that are not live, and such that are so by a Side alone.
func river() Pipeline {
	return pipe(
		source("int"),         // 0
		source("text"),        // 1, read by a Side alone
		each(0, "x", 1),       // 2
		windowed(2, fixed),    // 3
		group(3, "x", plain),  // 4
		flatten(0, 2, 3),      // 5, not live
		sink(4),               // 6
		source("int"),         // 7, read by nobody
		each(4, "x", 1, 2, 4), // 8, the Ins among its Sides
		sink(8),               // 9
		each(5, "x", 8),       // 10, not live
		sink(0),               // 11
	)
}

// P11.3: Users, by hand.
func TestUsers(t *testing.T) {
	want := [][]int{0: {2, 5, 11}, 1: {2, 8}, 2: {3, 5, 8}, 3: {4, 5}, 4: {6, 8}, 5: {10}, 8: {9, 10}, 11: {}}
	for i := range 12 {
		wantPlaces(t, "Users", Users(river(), i), want[i]...)
	}
}

// P11.3: Above, by hand.
func TestAbove(t *testing.T) {
	want := [][]int{2: {0, 1}, 3: {0, 1, 2}, 4: {0, 1, 2, 3}, 5: {0, 1, 2, 3}, 6: {0, 1, 2, 3, 4}, 8: {0, 1, 2, 3, 4}, 9: {0, 1, 2, 3, 4, 8}, 10: {0, 1, 2, 3, 4, 5, 8}, 11: {0}}
	for i := range 12 {
		wantPlaces(t, "Above", Above(river(), i), want[i]...)
	}
}

// P11.3: Live, by hand.
func TestLive(t *testing.T) {
	wantPlaces(t, "Live", Live(river()), 0, 1, 2, 3, 4, 6, 8, 9, 11)
	wantPlaces(t, "Live without a Sink", Live(pipe(source("int"), flatten(0))))
	wantPlaces(t, "Live with a Sink alone", Live(pipe(source("int"), sink(0))), 0, 1)
	wantPlaces(t, "Live with a Sink of the second", Live(pipe(source("int"), source("int"), sink(1))), 1, 2)
	wantPlaces(t, "Live by a Side", Live(pipe(source("int"), source("int"), source("int"), each(0, "x", 2), sink(3))), 0, 2, 3, 4)
}

// P11.3: places that are none have no Users, and nothing is above them.
func TestNoPlace(t *testing.T) {
	for _, p := range []Pipeline{river(), pipe(source("int"))} {
		for _, i := range []int{-1, -2, -12, leastInt, leastInt + 1, len(p.Nodes), len(p.Nodes) + 1, api.MaxNodes, api.MaxNodes + 1, 1 << 32, 1<<32 + 4, -1<<32 + 4, mostInt - 1, mostInt} {
			wantPlaces(t, "Users", Users(p, i))
			wantPlaces(t, "Above", Above(p, i))
		}
	}
}

// P11.3: of a pipeline that is not right there is nothing, wherever its fault is, and though all its places are those of nodes.
func TestOfWrong(t *testing.T) {
	for at := range 12 {
		p := river()
		p.Nodes[at].Text += "\n"
		wantRefused(t, "the river", p, at, api.ErrForm)
		for i := -1; i < 13; i++ {
			wantPlaces(t, "Users", Users(p, i))
			wantPlaces(t, "Above", Above(p, i))
		}
	}
	round := pipe(source("int"), flatten(0, 2), flatten(1), sink(2))
	wantRefused(t, "a round", round, 1, api.ErrInput)
	longer := pipe(append(sources(32), sink(0))...)
	wantRefused(t, "33 nodes", longer, 0, api.ErrForm)
	wantPlaces(t, "Users in 33 nodes", Users(longer, 0))
	wantPlaces(t, "Above in 33 nodes", Above(longer, 32))
	wantPlaces(t, "Live in none", Live(Pipeline{}))
}

// P11.3: the greatest pipelines, each node of which reads from as many as it may.
func TestGreatest(t *testing.T) {
	row, wide := sources(1), sources(4)
	for i := range 30 {
		row = append(row, flatten(i))
	}
	for i := range 27 {
		wide = append(wide, each(i+3, "x", i, i+1, i+2, i+3))
	}
	for _, nodes := range [][]Node{row, wide} {
		p := pipe(append(nodes, sink(30))...)
		wantRight(t, "the greatest", p)
		wantPlaces(t, "Above the Sink", Above(p, 31), upTo(31)...)
		wantPlaces(t, "Live", Live(p), upTo(32)...)
	}
}
