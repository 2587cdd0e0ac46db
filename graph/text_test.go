package graph

import (
	"fmt"
	"slices"
	"strings"
	"testing"

	"watershed/api"
	"watershed/trigger"
	"watershed/window"
)

// P11.2: texts of right pipelines, by hand: with each Op, with and without Sides, with several Sinks, with nodes that are not live.
func TestTextsByHand(t *testing.T) {
	wantText(t, "source int\n", pipe(source("int")))
	wantText(t, "source list(pair(int,option(text)))\n", pipe(source("list(pair(int,option(text)))")))
	wantText(t, lines("source int", "sink 0", "sink 0"), pipe(source("int"), sink(0), sink(0)))
	wantText(t, lines("source int", "source text", "each 0 1 x", "each 0 0,1 x", "each 2 0,1,2,3 x", "each 4 - x", "sink 5"),
		pipe(source("int"), source("text"), each(0, "x", 1), each(0, "x", 0, 1), each(2, "x", 0, 1, 2, 3), each(4, "x"), sink(5)))
	wantText(t, lines("source bool", "window 0 0 0 0 0", "window 0 1 1048576 0 1048575", "window 2 2 10 5 4", "window 0 3 7 0 0"),
		pipe(source("bool"), windowed(0, window.Fn{}), windowed(0, window.Fn{Kind: 1, Size: api.MaxTime, Offset: api.MaxTime - 1}), windowed(2, window.Fn{Kind: 2, Size: 10, Period: 5, Offset: 4}), windowed(0, window.Fn{Kind: 3, Size: 7})))
	wantText(t, lines("source pair(int,int)", "group 0 0 0 0 dis sum", "group 0 1000 999 1048576 acc top(3)", "group 2 1 2 3 dis both(sum, mean)"),
		pipe(source("pair(int,int)"), group(0, "sum", trigger.Spec{}), group(0, "top(3)", trigger.Spec{Early: 1000, Late: 999, Lateness: api.MaxTime, Accumulate: true}), group(2, "both(sum, mean)", trigger.Spec{Early: 1, Late: 2, Lateness: 3})))
	wantText(t, lines("source int", "flatten 0", "flatten 0,1", "flatten 0,1,2", "flatten 0,1,2,3", "flatten 1,4", "sink 5"),
		pipe(source("int"), flatten(0), flatten(0, 1), flatten(0, 1, 2), flatten(0, 1, 2, 3), flatten(1, 4), sink(5)))
	wantText(t, lines("source int", "each 0 - -", "each 0 -  x ", "each 0 0  ", "group 0 0 0 0 acc  ", "group 0 0 0 0 acc dis  x", "each 0 - ~!\"\\,"),
		pipe(source("int"), each(0, "-"), each(0, " x "), each(0, " ", 0), group(0, " ", plain), group(0, "dis  x", plain), each(0, `~!"\,`)))
	wantText(t, lines("source int", "each 0 - "+strings.Repeat(" x", 500), "group 0 0 0 0 dis "+strings.Repeat("x", 1000)),
		pipe(source("int"), each(0, strings.Repeat(" x", 500)), group(0, strings.Repeat("x", 1000), trigger.Spec{})))
	nodes, texts := sources(1), []string{"source int"}
	for i := range 31 {
		nodes = append(nodes, flatten(i))
		texts = append(texts, fmt.Sprint("flatten ", i))
	}
	wantText(t, lines(texts...), pipe(nodes...))
}

// head is right, and leads from place 0 to place 4, which is no Sink.
var head = lines("source int", "source text", "each 0 - x", "window 0 1 10 0 0", "flatten 0,2")

// wantLine: a text whose line 5 is this one is right, or has its fault at that line, or Check's error there, be it the last line or not.
func wantLine(t *testing.T, line string, want api.Errno) {
	t.Helper()
	for _, behind := range []string{"", "sink 0\n", "sink 0\nsink 77\n"} {
		s := head + line + "\n" + behind
		switch {
		case want == api.ErrSyntax:
			wantSyntax(t, s, 5)
		case want != api.OK:
			wantCheck(t, s, 5, want)
		case behind == "sink 0\nsink 77\n":
			wantCheck(t, s, 7, api.ErrInput)
		default:
			p, at, e := Parse(s)
			text, _ := Show(p)
			if at != 0 || e != api.OK || text != s {
				t.Errorf("Parse(%.200q): %d, %d; its text is %.200q", s, at, e, text)
			}
		}
	}
}

// P11.2: lines by hand: those that are right, those of nodes that are not, and those that are none.
func TestLines(t *testing.T) {
	for _, c := range []struct {
		want  api.Errno
		lines []string
	}{
		{api.OK, []string{"source int", "source pair(int,int)", "sink 0", "sink 4", "each 0 - x", "each 4 0,4 x", "each 4 1 x", "flatten 0", "flatten 0,1,2,4", "window 4 0 0 0 0", "window 4 1 10 0 9", "group 4 0 0 0 acc x", "group 4 1 1 1 dis x"}},
		{api.OK, []string{"each 0 -  x", "each 0 - x ", "each 0 - - x", "each 0 0  x", "each 0 -  ", "group 0 0 0 0 acc  x", "group 0 0 0 0 acc x ", "group 0 0 0 0 dis  "}},
		{api.ErrInput, []string{"sink 5", "sink 6", "sink 99", "sink 100", "sink 999", "each 5 - x", "each 999 - x", "each 0 5 x", "each 0 999 x", "each 0 0,5 x", "each 0 0,1,2,33 x", "each 0 996,997,998,999 x", "window 5 1 10 0 0", "group 5 0 0 0 acc x", "flatten 5", "flatten 999", "flatten 0,5", "flatten 0,12", "flatten 0,1,2,5", "flatten 996,997,998,999"}},
		{api.ErrInput, []string{"window 999 9999999 9999999 9999999 9999999", "group 999 9999999 9999999 9999999 acc x", "each 999 998,999 x"}},
		{api.ErrForm, []string{"window 0 4 0 0 0", "window 0 9999999 0 0 0", "window 0 1 9999999 0 0", "window 0 1 1048577 0 0", "window 0 1 10 0 10", "window 0 1 10 0 9999999", "window 0 1 10 5 0", "window 0 2 10 9999999 0", "window 0 0 10 0 0", "window 0 0 0 0 1", "group 0 1001 0 0 acc x", "group 0 0 1001 5 acc x", "group 0 0 0 1048577 dis x", "group 0 0 1 0 acc x", "group 0 9999999 0 0 acc x", "group 0 0 9999999 0 acc x", "group 0 0 0 9999999 dis x", "group 0 1000000 0 0 acc x"}},
		{api.ErrSyntax, []string{"", " ", "  ", "x", "0", "-", "Sink 0", "SINK 0", "sin 0", "sinks 0", "sink0", "sink\t0", "sink\x000", "drain 0", "1 int", "6 0", "sourceint", "eachx", "sink", "source", "each", "window", "group", "flatten", "#sink 0", "sink 0 # x", "sink 0\r"}},
		{api.ErrSyntax, []string{" sink 0", "sink  0", "sink 0 ", "sink ", "sink 0 0", "sink 0,", "sink ,0", "sink 0,1", "sink -", "sink +0", "sink -0", "sink -1", "sink 00", "sink 01", "sink 000", "sink 010", "sink 0x0", "sink 0.0", "sink 1e1", "sink 1_0", "sink 1000", "sink 1001", "sink 9999", "sink 10000000", "sink 18446744073709551616", "sink 18446744073709551617", "sink ٣", "sink a"}},
		{api.ErrSyntax, []string{" source int", "source  int", "source int ", "source ", "source i", "source imt", "source ints", "source Int", "source none", "source some(int)", "source pair(int)", "source pair(int,int", "source pair(int, int)", "source list()", "source list(int) 0", "source int int", "source int,int", "source list(list(list(list(list(list(int))))))", "source 2", "source -", "source int\r"}},
		{api.ErrSyntax, []string{" each 0 - x", "each  0 - x", "each 0  - x", "each 0 -", "each 0 - ", "each 0 x", "each 0", "each ", "each 0 -x", "each 0- x", "each 0,1 - x", "each - - x", "each 00 - x", "each +0 - x", "each -1 - x", "each 1000 - x", "each a - x", "each 0, - x", "each 0 -- x", "each 0 -, x", "each 0 ,- x", "each 0 -,0 x", "each 0 0,- x", "each 0 0, x", "each 0 ,0 x", "each 0 0,,1 x", "each 0 , x", "each 0 0,1, x", "each 0 0, 1", "each 0 0;1 x", "each 0 00 x", "each 0 0,01 x", "each 0 0,+1 x", "each 0 0,-1 x", "each 0 -1 x", "each 0 1000 x", "each 0 0,1000 x", "each 0 0,1,2,3,4,5,6,1000 x", "each 0 0,1,2,3,4,5,6, x", "each 0 a x"}},
		{api.ErrSyntax, []string{"each 0 - x\t", "each 0 - \x1f", "each 0 - \x7f", "each 0 - x\x7fx", "each 0 - \x80", "each 0 - ä", "each 0 - x\r", "each 0 - \x00", "each 0 0 \x1fx", "each 0 - " + strings.Repeat("x", 1001), "each 0 -  " + strings.Repeat("x", 1000), "each 0 - " + strings.Repeat("x", 999) + "\x1f"}},
		{api.ErrSyntax, []string{" window 0 1 10 0 0", "window  0 1 10 0 0", "window 0  1 10 0 0", "window 0 1  10 0 0", "window 0 1 10  0 0", "window 0 1 10 0  0", "window 0 1 10 0 0 ", "window 0 1 10 0", "window 0 1 10 0 ", "window 0 1 10 0 0 0", "window 0 1 10 00", "window 01 10 0 0", "window", "window 0", "window 0 1", "window 0,1 1 10 0 0", "window - 1 10 0 0", "window 00 1 10 0 0", "window 0 01 10 0 0", "window 0 1 010 0 0", "window 0 1 10 00 0", "window 0 1 10 0 00", "window +0 1 10 0 0", "window 0 +1 10 0 0", "window 0 1 +10 0 0", "window 0 1 10 +0 0", "window 0 1 10 -0 0", "window 0 1 10 0 +0", "window 0 -1 10 0 0", "window 0 1 -10 0 0", "window 0 1 10 0 -1", "window 1000 1 10 0 0", "window 0 10000000 10 0 0", "window 0 1 10000000 0 0", "window 0 2 10 10000000 0", "window 0 1 10 0 10000000", "window 0 1 18446744073709551626 0 0", "window 0 a 10 0 0", "window 0 1 a 0 0", "window 0 1 10 a 0", "window 0 1 10 0 a", "window 0 1 10 0 -", "window 0 fixed 10 0 0", "window 0 1 10 0,0 0"}},
		{api.ErrSyntax, []string{" group 0 0 0 0 acc x", "group  0 0 0 0 acc x", "group 0  0 0 0 acc x", "group 0 0  0 0 acc x", "group 0 0 0  0 acc x", "group 0 0 0 0  acc x", "group 0 0 0 0 acc", "group 0 0 0 0 acc ", "group 0 0 0 0accx", "group 0 0 0 0 accx", "group 0 0 0 acc x", "group 0 0 0 0 x", "group 0 0 0 0 0 acc x", "group", "group 0", "group 0,1 0 0 0 acc x", "group - 0 0 0 acc x", "group 00 0 0 0 acc x", "group 0 00 0 0 acc x", "group 0 0 00 0 acc x", "group 0 0 0 00 acc x", "group 0 01 0 0 acc x", "group 0 +1 0 0 acc x", "group 0 -1 0 0 acc x", "group 0 0 +1 1 acc x", "group 0 0 -1 1 acc x", "group 0 0 0 +1 acc x", "group 0 0 0 -1 acc x", "group 1000 0 0 0 acc x", "group 0 10000000 0 0 acc x", "group 0 0 10000000 0 acc x", "group 0 0 0 10000000 acc x", "group 0 a 0 0 acc x", "group 0 - - - acc x"}},
		{api.ErrSyntax, []string{"group 0 0 0 0 Acc x", "group 0 0 0 0 ACC x", "group 0 0 0 0 ac x", "group 0 0 0 0 accu x", "group 0 0 0 0 di x", "group 0 0 0 0 disc x", "group 0 0 0 0 Dis x", "group 0 0 0 0 accdis x", "group 0 0 0 0 acc,dis x", "group 0 0 0 0 true x", "group 0 0 0 0 false x", "group 0 0 0 0 1 x", "group 0 0 0 0 - x", "group 0 0 0 0 sum acc", "group 0 0 0 0  x", "group 0 0 0 0 acc \x1f", "group 0 0 0 0 dis x\x7f", "group 0 0 0 0 acc " + strings.Repeat("x", 1001)}},
		{api.ErrSyntax, []string{" flatten 0", "flatten  0", "flatten 0 ", "flatten ", "flatten -", "flatten 0 1", "flatten 0, 1", "flatten 0 ,1", "flatten 0,", "flatten ,", "flatten ,0", "flatten 0,,1", "flatten 0,1,", "flatten 0,1,2,4,", "flatten 0,-", "flatten -,0", "flatten 00", "flatten 0,01", "flatten +0", "flatten 0,+1", "flatten -1", "flatten 0,-1", "flatten 1000", "flatten 0,1000", "flatten 0,1,2,3,4,5,6,1000", "flatten 0,1,2,3,4,5,6,7,", "flatten 0,1,2,3,4,5,6,7,-", "flatten a", "flatten 0,a", "flatten 0;1", "flatten 0.1"}},
	} {
		for _, line := range c.lines {
			wantLine(t, line, c.want)
		}
	}
}

// P11.2: a line whose places, in In of a Flatten or in Side, are too many or do not rise is no node's; one whose places are no nodes' is Check's.
func TestPlacesInLines(t *testing.T) {
	for _, c := range []struct {
		want  api.Errno
		lines []string
	}{
		{api.OK, []string{"flatten 0", "flatten 4", "flatten 0,1", "flatten 0,4", "flatten 1,2,3", "flatten 0,1,2,3", "flatten 1,2,3,4"}},
		{api.OK, []string{"each 4 - x", "each 4 0 x", "each 4 4 x", "each 0 0,4 x", "each 0 1,2,3 x", "each 0 0,1,2,3 x", "each 0 1,2,3,4 x"}},
		{api.ErrInput, []string{"flatten 5", "flatten 4,5", "flatten 0,999", "flatten 998,999", "flatten 0,1,2,5", "flatten 5,6,7,8", "flatten 9,10,99,100"}},
		{api.ErrInput, []string{"each 0 5 x", "each 0 4,5 x", "each 0 0,999 x", "each 0 998,999 x", "each 0 0,1,2,5 x", "each 0 5,6,7,8 x", "each 0 9,10,99,100 x", "each 5 0,1 x"}},
		{api.ErrSyntax, []string{"flatten 0,0", "flatten 4,4", "flatten 9,9", "flatten 999,999", "flatten 0,0,1", "flatten 0,1,1", "flatten 0,1,2,2", "flatten 0,1,1,2", "flatten 0,1,0", "flatten 0,1,2,0", "flatten 0,0,0,0"}},
		{api.ErrSyntax, []string{"each 0 0,0 x", "each 0 4,4 x", "each 0 9,9 x", "each 0 999,999 x", "each 0 0,0,1 x", "each 0 0,1,1 x", "each 0 0,1,2,2 x", "each 0 0,1,1,2 x", "each 0 0,1,0 x", "each 0 0,1,2,0 x", "each 0 0,0,0,0 x", "each 5 1,1 x"}},
		{api.ErrSyntax, []string{"flatten 1,0", "flatten 4,3", "flatten 10,9", "flatten 100,99", "flatten 999,0", "flatten 33,6", "flatten 0,12,4", "flatten 0,2,1", "flatten 1,0,2", "flatten 0,1,3,2", "flatten 3,2,1,0"}},
		{api.ErrSyntax, []string{"each 0 1,0 x", "each 0 4,3 x", "each 0 10,9 x", "each 0 100,99 x", "each 0 999,0 x", "each 0 33,6 x", "each 0 0,12,4 x", "each 0 0,2,1 x", "each 0 1,0,2 x", "each 0 0,1,3,2 x", "each 0 3,2,1,0 x", "each 5 1,0 x"}},
		{api.ErrSyntax, []string{"flatten 0,1,2,3,4", "flatten 5,6,7,8,9", "flatten 0,0,0,0,0", "flatten 4,3,2,1,0", "flatten 0,1,2,3,4,5", "flatten 0,1,2,3,4,5,6,7,8,9,10", "flatten 0,1,2,3,", "flatten 0,1,2,3,-", "flatten 0,1,2,3,1000"}},
		{api.ErrSyntax, []string{"each 0 0,1,2,3,4 x", "each 0 5,6,7,8,9 x", "each 0 0,0,0,0,0 x", "each 0 4,3,2,1,0 x", "each 0 0,1,2,3,4,5 x", "each 0 0,1,2,3,4,5,6,7,8,9,10 x", "each 0 0,1,2,3, x", "each 0 0,1,2,3,- x", "each 0 0,1,2,3,1000 x", "each 5 0,1,2,3,4 x"}},
		{api.ErrSyntax, []string{"flatten 0" + strings.Repeat(",0", 100000), "each 0 0" + strings.Repeat(",0", 100000) + " x", "flatten 0" + strings.Repeat(",0", 100000) + ",", "flatten 0,1,2,3" + strings.Repeat(",", 100000), "each 0 " + strings.Repeat("0", 100000) + " x"}},
	} {
		for _, line := range c.lines {
			wantLine(t, line, c.want)
		}
	}
}

// P11.2: all rows of up to five places, from 0 to 5, where a Flatten's In and an Each's Side stand.
func TestRowsInLines(t *testing.T) {
	var try func(row []int)
	try = func(row []int) {
		want := api.OK
		if len(row) == 5 || !slices.Equal(row, slices.Compact(slices.Sorted(slices.Values(row)))) {
			want = api.ErrSyntax
		} else if slices.Contains(row, 5) {
			want = api.ErrInput
		}
		text := strings.Trim(strings.ReplaceAll(fmt.Sprint(row), " ", ","), "[]")
		if len(row) > 0 {
			wantLine(t, "flatten "+text, want)
			wantLine(t, "each 0 "+text+" x", want)
		}
		for at := 0; at <= 5 && len(row) < 5; at++ {
			try(append(slices.Clone(row), at))
		}
	}
	try(nil)
	wantLine(t, "flatten ", api.ErrSyntax)
	wantLine(t, "flatten -", api.ErrSyntax)
	wantLine(t, "each 0 - x", api.OK)
}

// P11.2: numbers of each place in a line: all from 0 to the greatest that may be written, no other one.
func TestNumbers(t *testing.T) {
	for _, format := range []string{"sink %d", "each %d - x", "each 0 %d x", "each 0 0,%d x", "flatten %d", "flatten 0,%d", "window %d 0 0 0 0", "group %d 0 0 0 acc x"} {
		for n := range 1200 {
			line := fmt.Sprintf(format, n)
			wrong := n > 999 || n == 0 && strings.Contains(format, "0,%d")
			if _, _, e := Parse(head + line + "\n"); (e == api.ErrSyntax) != wrong {
				t.Errorf("%q: %d", line, e)
			}
		}
	}
	for _, format := range []string{"window 0 %s 0 0 0", "window 0 1 %s 0 0", "window 0 2 9 %s 0", "window 0 1 9 0 %s", "group 0 %s 0 0 acc x", "group 0 0 %s 0 acc x", "group 0 0 0 %s dis x"} {
		for _, c := range []struct {
			good    bool
			numbers string
		}{
			{true, "0 1 9 10 99 100 999 1000 9999 10000 99999 100000 999999 1000000 1048576 1048577 4294967 9999998 9999999"},
			{false, "10000000 10000001 99999999 100000000 4294967296 4294967297 9223372036854775807 9223372036854775808 18446744073709551616 18446744073709551617 00 01 09 0000000 0000001 00000000 +0 +1 -0 -1 -9999999 0x1 1e3 1.0 0.5 1_000 ١ a o O l ,"},
		} {
			for _, number := range strings.Fields(c.numbers) {
				line := fmt.Sprintf(format, number)
				if _, _, e := Parse(head + line + "\n"); (e != api.ErrSyntax) != c.good {
					t.Errorf("%q: %d", line, e)
				}
			}
		}
	}
}

// P11.2: Texts of each length and byte in lines are read as Check has them.
func TestTextsInLines(t *testing.T) {
	for _, format := range []string{"each 0 - %s", "each 0 0,1 %s", "group 0 0 0 0 dis %s"} {
		for b := range 256 {
			want := api.ErrSyntax
			if b >= 32 && b <= 126 {
				want = api.OK
			}
			if b == '\n' {
				continue
			}
			for _, text := range []string{"%s", "%sx", "x%s", "x%sx", " %s "} {
				wantLine(t, fmt.Sprintf(format, fmt.Sprintf(text, string([]byte{byte(b)}))), want)
			}
		}
		for _, many := range []int{0, 1, 2, 999, 1000, 1001, 1002, 2000} {
			want := api.ErrSyntax
			if many >= 1 && many <= 1000 {
				want = api.OK
			}
			wantLine(t, fmt.Sprintf(format, strings.Repeat("x", many)), want)
			wantLine(t, fmt.Sprintf(format, strings.Repeat(" ", many)), want)
		}
	}
}

// P11.2: an empty text, empty lines, and last lines without an end.
func TestEnds(t *testing.T) {
	wantCheck(t, "", 0, api.ErrForm)
	wantSyntax(t, "\n", 0)
	wantSyntax(t, "\n\n", 0)
	wantSyntax(t, "\nsource int\n", 0)
	wantSyntax(t, "source int\n\n", 1)
	wantSyntax(t, "source int\n\nsink 0\n", 1)
	wantSyntax(t, "source int\nsink 0\n\n", 2)
	wantSyntax(t, "source int", 0)
	wantSyntax(t, "source int\nsink 0", 1)
	wantSyntax(t, "source int\nsink 0\n ", 2)
	wantSyntax(t, "source int\nsink 0\ns", 2)
	wantSyntax(t, "source int\r\nsink 0\r\n", 0)
	wantSyntax(t, "source int\nfoo\nsink 0", 1)
	wantSyntax(t, "foo\nbar", 0)
	// The last line is one but for its end, the node ahead of it is not right.
	wantSyntax(t, "sink 0\nsource int", 1)
	wantSyntax(t, strings.Repeat("source int\n", 40)+"source int", 40)
}

// P11.2: a line that is none is told ahead of a node that is not right, wherever both stand; and the first of two such lines.
func TestLinesFirst(t *testing.T) {
	wantSyntax(t, lines("sink 0", "sink 01"), 1)
	wantSyntax(t, lines("sink 0", "source int", "x", "y"), 2)
	wantSyntax(t, lines("source int", "sink 7", "sink 0", "window 0 9 9 9 9", ""), 4)
	wantSyntax(t, lines("source int", "sink 01", "sink 7"), 1)
	wantCheck(t, lines("source int", "window 0 9 9 9 9", "sink 7"), 1, api.ErrForm)
	wantCheck(t, lines("source int", "sink 7", "window 0 9 9 9 9"), 1, api.ErrInput)
	wantCheck(t, lines("source int", "sink 0", "sink 1", "flatten 0,1"), 2, api.ErrInput)
	wantCheck(t, lines("source int", "sink 0", "flatten 0,1"), 2, api.ErrInput)
	// So it is behind more lines than there may be nodes.
	many := strings.Repeat("source int\n", 32)
	wantText(t, many, pipe(sources(32)...))
	wantCheck(t, many+"source int\n", 0, api.ErrForm)
	wantCheck(t, many+"sink 0\nsink 999\n", 0, api.ErrForm)
	wantCheck(t, "sink 5\n"+many, 0, api.ErrForm)
	wantCheck(t, strings.Repeat(many, 100), 0, api.ErrForm)
	wantSyntax(t, many+"sink 0\nsink 01\n", 33)
	wantSyntax(t, strings.Repeat(many, 100)+"sink 01\n", 3200)
	wantSyntax(t, strings.Repeat(many, 100)+"source int", 3200)
	// So is one whose places are too many, or do not rise.
	wantSyntax(t, lines("window 0 1 0 0 0", "group 1 3 0 0 acc 4", "each 2 33,6 m"), 2)
	wantSyntax(t, lines("sink 0", "flatten 0,1,2,3,4"), 1)
	wantSyntax(t, many+lines("sink 0", "flatten 0,0"), 33)
}
