package denote

import (
	"math"
	"math/rand"
	"slices"
	"strings"
	"testing"

	"watershed/api"
	"watershed/valid"
	"watershed/window"
)

// calls is a pipeline with nodes of all Ops: two Groups, in windows of 10 and in sessions, and Eachs without a side and with two.
func calls(t *testing.T) *valid.Valid {
	return made(t,
		"source pair(int,int)", "source text", "window 0 1 10 0 0", "group 2 0 0 0 acc both(sum,all)", "window 0 3 5 0 0",
		"group 4 0 0 0 acc sum", "each 1 - list(size(it))", "each 1 0,1 list(len(side(0)),len(side(1)),size(it))", "flatten 2", "sink 3", "sink 7")
}

const (
	tens    = 3 // a Group of Fixed
	session = 5 // a Group of Sessions
	plain   = 6 // an Each without a side
	looking = 7 // an Each with two
)

// noWindows are windows that are not right.
func noWindows() []window.Window {
	return []window.Window{{}, win(5, 5), win(6, 5), win(-api.MaxTime-1, 5), win(0, 2*api.MaxTime+2), win(math.MinInt, math.MaxInt), win(math.MaxInt, math.MinInt), win(math.MinInt, math.MinInt)}
}

// edgeWindows are right windows at the limits.
func edgeWindows() []window.Window {
	return []window.Window{win(-api.MaxTime, 2*api.MaxTime+1), win(-api.MaxTime, -api.MaxTime+1), win(2*api.MaxTime, 2*api.MaxTime+1), win(0, 1), always}
}

// wantGroup: the Group i has just these of these values, in whatever order they come.
func wantGroup(t *testing.T, v *valid.Valid, i int, values []Out, want ...string) {
	t.Helper()
	r := rand.New(rand.NewSource(1))
	for range 4 {
		if got, e := Group(v, i, values...); e != api.OK || lines(got) != strings.Join(want, "; ") {
			t.Errorf("Group(%d, %s): %s, %d; want %s", i, lines(values), lines(got), e, strings.Join(want, "; "))
		}
		values = slices.Clone(values)
		r.Shuffle(len(values), func(i, j int) { values[i], values[j] = values[j], values[i] })
	}
}

// P13.4: Group tells what a Group has of values in any right windows, in order; their times don't count.
func TestCallGroup(t *testing.T) {
	v := calls(t)
	wantGroup(t, v, tens, nil)
	wantGroup(t, v, session, nil)
	wantGroup(t, v, tens, outs(win(0, 10), 3, two(2, 5), two(1, 7), two(1, 6), two(1, 7)), "0..10 9 (1,(20,list(6,7,7)))", "0..10 9 (2,(5,list(5)))")
	// Windows that are not of the windowing are as good; none of them merge but by Sessions.
	var mixed []Out
	for time, w := range []window.Window{win(0, 10), win(9, 12), win(3, 4), win(-2, 10), win(0, 10), win(12, 13)} {
		mixed = append(mixed, Out{two(1, 1<<time), time * -7, w})
	}
	wantGroup(t, v, tens, mixed, "3..4 3 (1,(4,list(4)))", "-2..10 9 (1,(8,list(8)))", "0..10 9 (1,(17,list(1,16)))", "9..12 11 (1,(2,list(2)))", "12..13 12 (1,(32,list(32)))")
	wantGroup(t, v, session, mixed, "-2..12 11 (1,31)", "12..13 12 (1,32)")
	wantGroup(t, v, session, append(outs(win(10, 13), 0, two(1, 64)), mixed...), "-2..13 12 (1,127)")
	wantGroup(t, v, session, append(outs(win(10, 13), 0, two(2, 64)), mixed...), "-2..12 11 (1,31)", "10..13 12 (2,64)", "12..13 12 (1,32)")
}

// P13.4: the time of what a Group has is the window's stamp: below 0, if the window ends there, and at most MaxTime.
func TestCallGroupStamp(t *testing.T) {
	v := calls(t)
	wantGroup(t, v, session, outs(win(-9, -4), 3, two(1, 5)), "-9..-4 -5 (1,5)")
	wantGroup(t, v, session, outs(win(-api.MaxTime, -api.MaxTime+1), 3, two(1, 5)), "-1048576..-1048575 -1048576 (1,5)")
	wantGroup(t, v, session, outs(win(api.MaxTime, 2*api.MaxTime+1), 3, two(1, 5)), "1048576..2097153 1048576 (1,5)")
	for _, time := range []int{-1, math.MinInt, math.MaxInt, api.MaxTime + 1} {
		wantGroup(t, v, session, outs(win(0, 10), time, two(1, 5)), "0..10 9 (1,5)")
		wantGroup(t, v, tens, outs(always, time, two(1, 5)), "always 1048576 (1,(5,list(5)))")
	}
	for _, w := range edgeWindows() {
		if got, e := Group(v, session, outs(w, 0, two(1, 5))...); e != api.OK || len(got) != 1 || got[0].Win != w {
			t.Errorf("Group in %v: %s, %d", w, lines(got), e)
		}
	}
}

// P13.4: values above MaxItem are as good for Group and Emit as others; what Emit tells of them counts by its own size.
func TestCallSizes(t *testing.T) {
	v := made(t, "source pair(list(list(int)),list(list(int)))", "group 0 0 0 0 acc both(count,all)", "each 0 - list(first(it),second(it))", "source list(list(int))", "group 0 0 0 0 acc all", "sink 1", "sink 2", "sink 4")
	great, small := sized(1500), list()
	wantGroup(t, v, 1, outs(win(0, 10), 3, pair(small, great), pair(small, small)), "0..10 9 (list(),(2,list(list())))")
	got, e := Group(v, 1, outs(win(0, 10), 3, pair(great, small))...)
	if e != api.OK || len(got) != 1 || say(got[0].Value.List[0]) != say(great) || say(got[0].Value.List[1]) != "(1,list(list()))" {
		t.Errorf("Group of a great key: %d values, %d", len(got), e)
	}
	// Even where the outcome makes the pair greater than a right value.
	small = list(list(nums(make([]int, 14)...)...))
	key := sized(1980)
	var values []Out
	for _, k := range []api.Value{key, list(), list(list())} {
		for range 16 {
			values = append(values, outs(win(0, 10), 3, pair(k, small))...)
		}
	}
	got, e = Group(v, 4, values...)
	if e != api.OK || len(got) != 3 || say(got[2].Value.List[0]) != say(key) || len(got[2].Value.List[1].List) != 16 || say(got[1].Value.List[0]) != "list(list())" {
		t.Errorf("Group of a key of 1980: %s, %d", lines(got), e)
	}
	for size, want := range map[int]int{66: 2, 400: 2, 401: 1, 1500: 1} {
		got, e := Emit(v, 2, Out{pair(sized(size), list()), 3, win(0, 10)})
		if e != api.OK || len(got) != want || say(got[len(got)-1].Value) != "list()" {
			t.Errorf("Emit of a first of %d: %d values, %d; want %d", size, len(got), e, want)
		}
	}
}

// wantNoCall: nothing comes of a call but this error.
func wantNoCall(t *testing.T, what string, got []Out, e, want api.Errno) {
	t.Helper()
	if got != nil || e != want {
		t.Errorf("%s: %s, %d; want %d", what, lines(got), e, want)
	}
}

// P13.4: Group of what is no Group, and Emit of what is no Each, is refused ahead of all else.
func TestCallNoNode(t *testing.T) {
	v := calls(t)
	for _, i := range []int{0, 1, 2, 4, 8, 9, 10, 11, 12, -1, -4, api.MaxNodes, math.MinInt, math.MaxInt, 1<<32 + tens, 1<<32 + plain, plain, looking, tens, session} {
		for _, x := range []Out{{two(1, 2), 3, win(0, 10)}, {text("a"), 3, win(0, 10)}, {two(1, 2), 3, win(5, 5)}} {
			if i != tens && i != session {
				got, e := Group(v, i, x)
				wantNoCall(t, "Group of no Group", got, e, api.ErrInput)
				got, e = Group(v, i)
				wantNoCall(t, "Group of no Group and no values", got, e, api.ErrInput)
			}
			if i != plain && i != looking {
				got, e := Emit(v, i, x)
				wantNoCall(t, "Emit of no Each", got, e, api.ErrInput)
				got, e = Emit(v, i, x, list(), list())
				wantNoCall(t, "Emit of no Each with sides", got, e, api.ErrInput)
			}
		}
	}
}

// P13.4: Group refuses values that are not of the type that its In has, or whose window is not right, at any place.
func TestCallGroupWrong(t *testing.T) {
	v := calls(t)
	good := Out{two(1, 2), 3, win(0, 10)}
	bad := outs(win(0, 10), 3, num(1), pair(num(1), text("a")), pair(text("a"), num(1)), list(num(1), num(2)), api.Value{}, ring(), api.Value{Kind: api.Pair, List: nums(1)}, api.Value{Kind: api.Pair, List: nums(1, 2, 3)}, api.Value{Kind: api.Pair, Int: 1, List: nums(1, 2)}, none, pair(num(1), pair(num(1), list())))
	for _, w := range noWindows() {
		bad = append(bad, Out{two(1, 2), 3, w})
	}
	for _, x := range bad {
		for _, i := range []int{tens, session} {
			for _, values := range [][]Out{{x}, {x, good}, {good, x}, {good, good, x, good}} {
				got, e := Group(v, i, values...)
				wantNoCall(t, "Group of a wrong value", got, e, api.ErrItem)
			}
		}
	}
	// The greatest right value, and one that is greater by one.
	v = made(t, "source pair(int,list(list(int)))", "group 0 0 0 0 acc count", "sink 1")
	wantGroup(t, v, 1, outs(win(0, 10), 3, pair(num(1), sized(api.MaxSize-2))), "0..10 9 (1,1)")
	got, e := Group(v, 1, outs(win(0, 10), 3, pair(num(1), sized(api.MaxSize-1)))...)
	wantNoCall(t, "Group of a value that is too great", got, e, api.ErrItem)
}

// wantEmit: of x come just these values, in this order.
func wantEmit(t *testing.T, v *valid.Valid, i int, x Out, sides []api.Value, want ...string) {
	t.Helper()
	if got, e := Emit(v, i, x, sides...); e != api.OK || lines(got) != strings.Join(want, "; ") {
		t.Errorf("Emit(%d, %s): %s, %d; want %s", i, lines([]Out{x}), lines(got), e, strings.Join(want, "; "))
	}
}

// P13.4: Emit tells what comes of a value, in the order in which it is emitted, with its time and window, whatever they are.
func TestCallEmit(t *testing.T) {
	v := calls(t)
	wantEmit(t, v, plain, Out{text("abc"), 3, win(0, 10)}, nil, "0..10 3 3")
	wantEmit(t, v, looking, Out{text("a"), 3, win(0, 10)}, []api.Value{list(two(1, 2), two(1, 3), two(1, 4)), list(text("a"), text(""))}, "0..10 3 3", "0..10 3 2", "0..10 3 1")
	for _, time := range []int{-1, math.MinInt, api.MaxTime + 1, math.MaxInt} {
		for _, w := range edgeWindows() {
			got, e := Emit(v, plain, Out{text("abc"), time, w})
			if e != api.OK || len(got) != 1 || got[0].Time != time || got[0].Win != w || say(got[0].Value) != "3" {
				t.Errorf("Emit at %d in %v: %s, %d", time, w, lines(got), e)
			}
		}
	}
	v = made(t, "source int", "each 0 - map(range(it),x,mod(mul(x,7),5))", "sink 1")
	for many, want := range []string{"", "0..10 3 0", "0..10 3 0; 0..10 3 2", "0..10 3 0; 0..10 3 2; 0..10 3 4", "0..10 3 0; 0..10 3 2; 0..10 3 4; 0..10 3 1", "0..10 3 0; 0..10 3 2; 0..10 3 4; 0..10 3 1"} {
		wantEmit(t, v, 1, Out{num(many), 3, win(0, 10)}, nil, want)
	}
	v = made(t, "source int", "each 0 - list(if(lt(it,0),fold(range(64),0,a,x,add(a,fold(range(64),0,b,y,add(b,y)))),it))", "each 0 - "+emitting(2, 401, 400, 401, 2))
	wantEmit(t, v, 1, Out{num(5), 3, win(0, 10)}, nil, "0..10 3 5")
	wantEmit(t, v, 1, Out{num(-5), 3, win(0, 10)}, nil)
	if got, e := Emit(v, 2, Out{num(5), 3, win(0, 10)}); e != api.OK || len(got) != 2 || say(got[0].Value) != "list(list())" || got[1].Value.List[0].List[0].Int != 2 {
		t.Errorf("Emit of sizes: %s, %d", lines(got), e)
	}
}

// P13.4: a side of a right type may be any: with more than 16 values, in any order, of any size.
func TestCallEmitSides(t *testing.T) {
	v := made(t, "source int", "source list(list(int))", "each 0 0,1 concat(list(len(side(0)),len(side(1))),side(0))", "sink 2")
	wantEmit(t, v, 2, Out{num(0), 3, win(0, 10)}, []api.Value{list(nums(9, 1, 5)...), list(sized(900), sized(900), list())}, "0..10 3 3", "0..10 3 3", "0..10 3 9", "0..10 3 1")
	wantEmit(t, v, 2, Out{num(0), 3, win(0, 10)}, []api.Value{list(nums(make([]int, 64)...)...), list()}, "0..10 3 64", "0..10 3 0", "0..10 3 0", "0..10 3 0")
	wantEmit(t, v, 2, Out{num(0), 3, win(0, 10)}, []api.Value{list(), list()}, "0..10 3 0", "0..10 3 0")
}

// P13.4: Emit refuses values, windows and sides that are not right: each by itself, and two of them.
func TestCallEmitWrong(t *testing.T) {
	v := calls(t)
	good := Out{text("a"), 3, win(0, 10)}
	sides := []api.Value{list(two(1, 2)), list(text("a"))}
	wantEmit(t, v, looking, good, sides, "0..10 3 1", "0..10 3 1", "0..10 3 1")
	bad := outs(win(0, 10), 3, num(1), octets("a"), list(text("a")), none, api.Value{}, ring(), text(strings.Repeat("x", api.MaxText+1)), api.Value{Kind: api.Text, Int: 1})
	for _, w := range noWindows() {
		bad = append(bad, Out{text("a"), 3, w})
	}
	wrong := [][]api.Value{
		nil, sides[:1], sides[1:], append(slices.Clone(sides), list()), {sides[1], sides[0]}, {list(), list(num(1))}, {list(num(1)), list()}, {two(1, 2), list()},
		{list(), text("a")}, {none, list()}, {list(), api.Value{}}, {ring(), list()}, {list(two(1, 2), num(1)), list()}, {list(), list(text("a"), ring())}, {list(), list(make([]api.Value, 65)...)},
	}
	for _, x := range bad {
		got, e := Emit(v, looking, x, sides...)
		wantNoCall(t, "Emit of a wrong value", got, e, api.ErrItem)
		got, e = Emit(v, plain, x)
		wantNoCall(t, "Emit of a wrong value", got, e, api.ErrItem)
		got, e = Emit(v, looking, x, wrong[0]...)
		wantNoCall(t, "Emit of a wrong value with no sides", got, e, api.ErrItem)
	}
	for _, w := range wrong {
		got, e := Emit(v, looking, good, w...)
		wantNoCall(t, "Emit with wrong sides", got, e, api.ErrItem)
	}
	for _, w := range append(wrong[1:], sides) {
		got, e := Emit(v, plain, good, w...)
		wantNoCall(t, "Emit with sides where there are none", got, e, api.ErrItem)
	}
	// A value of which nothing would come is refused as well as others.
	v = made(t, "source int", "each 0 0 list(fold(range(64),0,a,x,add(a,fold(range(64),0,b,y,add(b,y)))))", "sink 1")
	wantEmit(t, v, 1, Out{num(1), 3, win(0, 10)}, []api.Value{list()})
	got, e := Emit(v, 1, Out{num(1), 3, win(0, 0)}, list())
	wantNoCall(t, "Emit that would end by ErrFuel, in no window", got, e, api.ErrItem)
	got, e = Emit(v, 1, Out{num(1), 3, win(0, 10)})
	wantNoCall(t, "Emit that would end by ErrFuel, without its side", got, e, api.ErrItem)
}
