package plan

import (
	"fmt"
	"math"
	"slices"
	"testing"

	"watershed/api"
)

const pairs = "source pair(int,int)"

// example are the lines of the chapter's own example.
func example() []string {
	return []string{pairs, "each 0 - list(pair(first(it),neg(second(it))))", "flatten 0,1", "group 2 0 0 0 acc all", "sink 3", "each 0 - list(it)"}
}

// wantFeeds: the stages that hand values to this place.
func wantFeeds(t *testing.T, p *Plan, i int, want ...int) {
	t.Helper()
	if got := p.Feeds(i); !slices.Equal(got, want) {
		t.Errorf("Feeds(%d): %v; want %v", i, got, want)
	}
}

// wantLive: of so many nodes just these are live.
func wantLive(t *testing.T, p *Plan, many int, want ...int) {
	t.Helper()
	for i := range many {
		if got := p.Live(i); got != slices.Contains(want, i) {
			t.Errorf("Live(%d): %v", i, got)
		}
	}
}

// wantHeads: of so many nodes just these are heads, with stages in this order.
func wantHeads(t *testing.T, p *Plan, many int, want ...int) {
	t.Helper()
	for i := range many {
		number, is := p.Of(i)
		if at := slices.Index(want, i); is != (at >= 0) || number != max(at, 0) {
			t.Errorf("Of(%d): %d, %v; want the place of %d in %v", i, number, is, i, want)
		}
	}
}

// P14.1: the chapter's own example.
func TestExample(t *testing.T) {
	p := wantStages(t, example(), "0 nodes[1 2] outs[3]", "3 nodes[4] sinks[4]")
	wantHeads(t, p, 6, 0, 3)
	wantLive(t, p, 6, 0, 1, 2, 3, 4)
	wantFeeds(t, p, 3, 0)
	for _, i := range []int{0, 1, 2, 4, 5} {
		wantFeeds(t, p, i)
	}
	if !p.Lifts(3) {
		t.Errorf("the Group isn't lifted")
	}
}

// P14.1: the pipeline of the document's ten examples: the stages are the source's and the group's.
func TestWholeStages(t *testing.T) {
	p := wantStages(t, []string{pairs, "window 0 1 10 0 0", "group 1 0 0 0 acc sum", "sink 2"}, "0 nodes[1] outs[2]", "2 nodes[3] sinks[3]")
	wantHeads(t, p, 4, 0, 2)
	wantFeeds(t, p, 2, 0)
}

// P14.1: Sources, Groups and Eachs with a Side are heads; all else that is live is fused.
func TestHeads(t *testing.T) {
	lines := []string{pairs, "each 0 - list(it)", "window 1 1 10 0 0", "flatten 2", "group 3 0 0 0 acc sum", "each 4 0 list(it)", "each 5 - list(it)", "window 6 2 10 5 0", "flatten 6", "sink 7", "sink 8"}
	p := wantStages(t, lines, "0 nodes[1 2 3] outs[4] kept[0]", "4 outs[5]", "5 nodes[6 7 8 9 10] sinks[9 10]")
	wantHeads(t, p, 11, 0, 4, 5)
	wantFeeds(t, p, 0)
	wantFeeds(t, p, 4, 0)
	wantFeeds(t, p, 5, 1)
}

// P14.1: a head with nothing behind it but a Sink, and one whose In is a head itself.
func TestHeadsInARow(t *testing.T) {
	wantStages(t, []string{"source int", "sink 0"}, "0 nodes[1] sinks[1]")
	wantStages(t, []string{"source int", "sink 0", "sink 0"}, "0 nodes[1 2] sinks[1 2]")
	p := wantStages(t, []string{pairs, "group 0 0 0 0 acc sum", "group 1 0 0 0 acc sum", "each 2 0,1 list(it)", "sink 3", "sink 1", "sink 0"},
		"0 nodes[6] outs[1] sinks[6] kept[0]", "1 nodes[5] outs[2] sinks[5] kept[1]", "2 outs[3]", "3 nodes[4] sinks[4]")
	wantHeads(t, p, 7, 0, 1, 2, 3)
	for i, want := range [][]int{nil, {0}, {1}, {2}, nil, nil, nil} {
		wantFeeds(t, p, i, want...)
	}
}

// P14.1: what leads to no sink is left out, of whatever Op: it is in no stage, and belongs to no Outs.
func TestLeftOut(t *testing.T) {
	lines := []string{pairs, "source text", "each 0 - list(it)", "window 0 1 10 0 0", "group 3 0 0 0 acc sum", "flatten 0,2", "sink 5", "each 0 0,1 list(it)", "flatten 5,7", "each 8 - list(it)", "window 5 1 10 0 0", "group 10 0 0 0 acc sum"}
	p := wantStages(t, lines, "0 nodes[2 5 6] sinks[6]")
	wantHeads(t, p, 12, 0)
	wantLive(t, p, 12, 0, 2, 5, 6)
	for i := range 12 {
		wantFeeds(t, p, i)
		if p.Lifts(i) {
			t.Errorf("Lifts(%d)", i)
		}
	}
}

// P14.1: a node leads to a sink by a Side, too; then it is kept, and not fused with who looks at it.
func TestLiveBySide(t *testing.T) {
	p := wantStages(t, []string{"source int", "source int", "each 1 - list(it)", "each 0 2 side(0)", "sink 3"}, "0 outs[3]", "1 nodes[2] kept[2]", "3 nodes[4] sinks[4]")
	wantLive(t, p, 5, 0, 1, 2, 3, 4)
	wantFeeds(t, p, 3, 0)
	p = wantStages(t, []string{"source int", pairs, "group 1 0 0 0 acc sum", "each 0 2 list(len(side(0)))", "sink 3"}, "0 outs[3]", "1 outs[2]", "2 kept[2]", "3 nodes[4] sinks[4]")
	wantFeeds(t, p, 3, 0)
	wantFeeds(t, p, 2, 1)
}

// P14.1: Kept has the head and the nodes that are in the Side of a live node, be it in that of several; not those at which only others look.
func TestKept(t *testing.T) {
	lines := []string{"source int", "each 0 - list(it)", "flatten 0,1", "window 0 1 10 0 0", "each 3 - list(it)"}
	for line, want := range map[string]string{
		"each 0 0 list(it)": "0 outs[5] kept[0]", "each 0 1 list(it)": "0 nodes[1] outs[5] kept[1]", "each 0 2 list(it)": "0 nodes[1 2] outs[5] kept[2]", "each 0 3 list(it)": "0 nodes[3] outs[5] kept[3]",
		"each 0 0,1,2,3 list(it)": "0 nodes[1 2 3] outs[5] kept[0 1 2 3]", "each 4 1,4 list(it)": "0 nodes[1 3 4] outs[5] kept[1 4]", "each 0 0,4 list(it)": "0 nodes[3 4] outs[5] kept[0 4]",
	} {
		p := wantStages(t, append(slices.Clone(lines), line, "sink 5"), want, "5 nodes[6] sinks[6]")
		wantFeeds(t, p, 5, 0)
		// Who looks without leading to a sink counts no more than if it weren't there.
		p = wantStages(t, append(slices.Clone(lines), line, "sink 2"), "0 nodes[1 2 6] sinks[6]")
		wantHeads(t, p, 7, 0)
		// One that is live and one that isn't, whichever stands first.
		wantStages(t, append(slices.Clone(lines), line, "each 2 4 list(it)", "sink 5"), want, "5 nodes[7] sinks[7]")
		wantStages(t, append(slices.Clone(lines), "each 2 2 list(it)", line, "sink 5"), "0 nodes[1 2] outs[5] kept[2]", "5 nodes[7] sinks[7]")
	}
	wantStages(t, append(slices.Clone(lines), "each 0 1,2 list(it)", "each 4 1,4 list(it)", "each 5 0,1,5 list(it)", "sink 6", "sink 7"),
		"0 nodes[1 2 3 4] outs[5 6] kept[0 1 2 4]", "5 outs[7] kept[5]", "6 nodes[8] sinks[8]", "7 nodes[9] sinks[9]")
}

// P14.1: a Flatten sinks down: it stands in each stage from which something comes to it, and so does all behind it.
func TestFlattenOfSeveral(t *testing.T) {
	lines := []string{pairs, pairs, "group 1 0 0 0 acc sum", "each 2 - list(it)", "flatten 0,1,2,3", "each 4 - list(it)", "group 5 0 0 0 acc sum", "sink 6", "sink 4", "sink 5"}
	p := wantStages(t, lines, "0 nodes[4 5 8 9] outs[6] sinks[8 9]", "1 nodes[4 5 8 9] outs[2 6] sinks[8 9]", "2 nodes[3 4 5 8 9] outs[6] sinks[8 9]", "6 nodes[7] sinks[7]")
	wantFeeds(t, p, 6, 0, 1, 2)
	wantFeeds(t, p, 2, 1)
	// What is looked at is kept in each of them.
	p = wantStages(t, []string{"source int", "source int", "each 1 0 list(it)", "flatten 0,2", "flatten 1,3", "each 0 4 side(0)", "sink 5", "sink 3"},
		"0 nodes[3 4 7] outs[5] sinks[7] kept[0 4]", "1 nodes[4] outs[2] kept[4]", "2 nodes[3 4 7] sinks[7] kept[4]", "5 nodes[6] sinks[6]")
	wantFeeds(t, p, 2, 1)
	wantFeeds(t, p, 5, 0)
	for i := range 5 {
		if i != 2 {
			wantFeeds(t, p, i)
		}
	}
}

// P14.1: a stage ends ahead of the next head: what stands behind that belongs to it alone, even if a way leads around it.
func TestBetween(t *testing.T) {
	around := []string{pairs, "group 0 0 0 0 acc sum", "each 1 - list(it)", "flatten 0,1", "flatten 2,3", "sink 4", "sink 2"}
	wantStages(t, around, "0 nodes[3 4 5] outs[1] sinks[5]", "1 nodes[2 3 4 5 6] sinks[5 6]")
	through := []string{pairs, "each 0 0 list(it)", "each 1 1 list(it)", "each 2 - list(it)", "sink 3"}
	wantStages(t, through, "0 outs[1] kept[0]", "1 outs[2] kept[1]", "2 nodes[3 4] sinks[4]")
}

// P14.1: a node that is read by two of one stage, and several heads that read from one node.
func TestReadTwice(t *testing.T) {
	lines := []string{pairs, "each 0 - list(it)", "flatten 1", "window 1 1 10 0 0", "flatten 1,2", "group 4 0 0 0 acc sum", "group 4 0 0 0 acc count", "each 4 1 list(it)", "group 3 0 0 0 acc sum", "sink 5", "sink 6", "sink 7", "sink 8", "sink 4", "sink 0"}
	p := wantStages(t, lines, "0 nodes[1 2 3 4 13 14] outs[5 6 7 8] sinks[13 14] kept[1]", "5 nodes[9] sinks[9]", "6 nodes[10] sinks[10]", "7 nodes[11] sinks[11]", "8 nodes[12] sinks[12]")
	for _, i := range []int{5, 6, 7, 8} {
		wantFeeds(t, p, i, 0)
	}
}

// P14.1: several Sources and Sinks: the stages stand in the order of their heads' places; a Source that is not live has none.
func TestManySources(t *testing.T) {
	lines := []string{"source int", "source text", "each 0 - list(it)", "source int", "source bool", "flatten 0,3", "sink 5", "sink 4", "sink 2", "each 1 - list(it)"}
	p := wantStages(t, lines, "0 nodes[2 5 6 8] sinks[6 8]", "3 nodes[5 6] sinks[6]", "4 nodes[7] sinks[7]")
	wantHeads(t, p, 10, 0, 3, 4)
	wantLive(t, p, 10, 0, 2, 3, 4, 5, 6, 7, 8)
}

// P14.1: an Each with a Side behind a Group, and a Group behind that.
func TestSideBehindGroup(t *testing.T) {
	p := wantStages(t, []string{pairs, "window 0 1 10 0 0", "group 1 0 0 0 acc sum", "each 2 1,2 list(it)", "group 3 0 0 0 acc sum", "sink 4"},
		"0 nodes[1] outs[2] kept[1]", "2 outs[3] kept[2]", "3 outs[4]", "4 nodes[5] sinks[5]")
	for i, want := range map[int]int{2: 0, 3: 1, 4: 2} {
		wantFeeds(t, p, i, want)
	}
}

// P14.1: a live Group is lifted, but not by Sessions, and not with an Early, whatever else it has.
func TestLifts(t *testing.T) {
	for win, may := range map[string]bool{"0 0 0 0": true, "1 10 0 0": true, "1 10 0 3": true, "2 10 5 0": true, "3 5 0 0": false} {
		for trig, early := range map[string]bool{
			"0 0 0 acc": false, "0 0 0 dis": false, "0 0 5 acc": false, "0 0 1048576 dis": false, "0 1 5 acc": false, "0 1000 5 dis": false,
			"1 0 0 acc": true, "1000 0 0 dis": true, "2 0 5 acc": true, "2 3 5 dis": true, "1 1 1 acc": true,
		} {
			if waits := trig != "0 0 0 acc" && trig != "0 0 0 dis"; waits && !may {
				continue
			}
			for _, comb := range []string{"sum", "all"} {
				p := planned(t, pairs, "window 0 "+win, fmt.Sprint("group 1 ", trig, " ", comb), "sink 2", "group 1 0 0 0 acc sum")
				if got := p.Lifts(2); got != (may && !early) {
					t.Errorf("Lifts of a Group %s %s by %s: %v", trig, comb, win, got)
				}
				for _, i := range []int{0, 1, 3, 4} {
					if p.Lifts(i) {
						t.Errorf("Lifts(%d)", i)
					}
				}
			}
		}
	}
}

// P14.1: the windowing of a Group is that which comes to it: the last Window ahead of it counts, and an Each or Flatten between doesn't.
func TestLiftsByWindowing(t *testing.T) {
	lines := []string{pairs, "window 0 3 5 0 0", "window 1 1 10 0 0", "window 2 3 5 0 0", "each 3 - list(it)", "flatten 3,4", "group 2 0 0 0 acc sum", "group 5 0 0 0 acc sum", "sink 6", "sink 7", "window 7 1 10 0 0", "group 10 0 0 0 acc sum", "sink 11", "group 1 0 0 0 acc sum", "group 10 1 0 0 acc sum", "sink 14", "group 6 0 0 0 acc sum", "sink 16"}
	p := planned(t, lines...)
	for i := range lines {
		if got, want := p.Lifts(i), i == 6 || i == 11 || i == 16; got != want {
			t.Errorf("Lifts(%d): %v; want %v", i, got, want)
		}
	}
}

// P14.1: a Group that is not live isn't lifted, is no head, and is fed by nothing.
func TestGroupNotLive(t *testing.T) {
	p := wantStages(t, []string{pairs, "group 0 0 0 0 acc sum", "sink 0", "flatten 1"}, "0 nodes[2] sinks[2]")
	wantHeads(t, p, 4, 0)
	wantFeeds(t, p, 1)
	if p.Lifts(1) || p.Live(1) || p.Live(3) {
		t.Errorf("a Group that leads to no Sink is live")
	}
}

// P14.1: of what is no node there is nothing to tell.
func TestNoNode(t *testing.T) {
	lines := example()
	p := planned(t, lines...)
	for _, i := range []int{-1, -2, -4, len(lines), len(lines) + 1, api.MaxNodes - 1, api.MaxNodes, api.MaxNodes + 3, math.MinInt, math.MaxInt, math.MinInt + 3, 1 << 32, 1<<32 + 3} {
		number, is := p.Of(i)
		if number != 0 || is || p.Live(i) || p.Lifts(i) || len(p.Feeds(i)) > 0 {
			t.Errorf("of the node %d: %d, %v, %v, %v, %v", i, number, is, p.Live(i), p.Lifts(i), p.Feeds(i))
		}
	}
}

// P14.1: a pipeline of as many nodes as there may be: all in one stage, each a stage, and fused behind as many heads as may be.
func TestManyNodes(t *testing.T) {
	lines, nodes := []string{"source int"}, []int{}
	for i := 1; i < api.MaxNodes-1; i++ {
		lines = append(lines, fmt.Sprint("flatten ", i-1))
		nodes = append(nodes, i)
	}
	lines, nodes = append(lines, fmt.Sprint("sink ", api.MaxNodes-2)), append(nodes, api.MaxNodes-1)
	wantStages(t, lines, fmt.Sprint("0 nodes", nodes, " sinks[31]"))

	lines, want := []string{pairs}, []string{"0 outs[1]"}
	for i := 1; i < api.MaxNodes-1; i++ {
		lines = append(lines, fmt.Sprint("group ", i-1, " 0 0 0 acc sum"))
		want = append(want, fmt.Sprint(i, " outs[", i+1, "]"))
	}
	want[api.MaxNodes-2] = "30 nodes[31] sinks[31]"
	p := wantStages(t, append(lines, fmt.Sprint("sink ", api.MaxNodes-2)), want...)
	for i := 1; i < api.MaxNodes-1; i++ {
		wantFeeds(t, p, i, i-1)
		if !p.Lifts(i) {
			t.Errorf("Lifts(%d)", i)
		}
	}

	lines, want = nil, nil
	for i := range 20 {
		lines = append(lines, pairs)
		want = append(want, fmt.Sprint(i, " nodes[", 20+i/4, " ", 25+i/16, " 27 28] outs[29] sinks[28]"))
	}
	lines = append(lines, "flatten 0,1,2,3", "flatten 4,5,6,7", "flatten 8,9,10,11", "flatten 12,13,14,15", "flatten 16,17,18,19", "flatten 20,21,22,23", "flatten 24", "flatten 25,26", "sink 27", "group 27 0 0 0 acc sum", "sink 29")
	p = wantStages(t, lines, append(want, "29 nodes[30] sinks[30]")...)
	wantFeeds(t, p, 29, 0, 1, 2, 3, 4, 5, 6, 7, 8, 9, 10, 11, 12, 13, 14, 15, 16, 17, 18, 19)
}

// P14.1: a plan is told as often as one likes, each time the same.
func TestPlanAgain(t *testing.T) {
	v := made(t, example()...)
	p, other := Make(v), Make(v)
	for range 3 {
		if !slices.Equal(stages(p), stages(other)) {
			t.Errorf("two plans of one pipeline are unlike")
		}
		p.Run(0, outs(always, 3, two(1, 2))...)
		p.Batch(nil)
	}
}
