package graph

import (
	"fmt"
	"reflect"
	"strings"
	"testing"

	"watershed/api"
	"watershed/kind"
	"watershed/trigger"
	"watershed/window"
)

// P11.1 to P11.3: the chapter's examples.
func TestExamples(t *testing.T) {
	p := pipe(source("int"), each(0, "list(pair(mod(it,2),it))"), group(1, "sum", plain), sink(2))
	wantRight(t, "the example", p)
	wantText(t, lines("source int", "each 0 - list(pair(mod(it,2),it))", "group 1 0 0 0 acc sum", "sink 2"), p)
	wantPlaces(t, "Users of 1", Users(p, 1), 2)
	wantPlaces(t, "Above of 3", Above(p, 3), 0, 1, 2)
	p.Nodes[1].In[0] = 1
	wantRefused(t, "a node 1 with In 1", p, 1, api.ErrInput)
	wantSyntax(t, lines("source int", "sink 01"), 1)
}

// P11.1: right nodes of each Op, behind a Source and alone.
func TestEachOp(t *testing.T) {
	for _, n := range ofEach() {
		wantNode(t, fmt.Sprint("Op ", n.Op), sources(1), n, api.OK)
		want := api.ErrInput
		if n.Op == Source {
			want = api.OK
		}
		wantNode(t, fmt.Sprint("Op alone ", n.Op), nil, n, want)
	}
}

// P11.1: an Op that is none, whatever else is so.
func TestNoOp(t *testing.T) {
	for _, number := range []int{0, -1, -2, -6, 7, 8, 9, 100, 1<<32 + 1, 1<<8 + 1, -1<<32 + 3, leastInt, leastInt + 1, mostInt} {
		for _, n := range append(ofEach(), Node{}, Node{In: []int{9, 9, 9, 9, 9, 9}, Side: []int{-1}, Text: "\n"}) {
			n.Op = number
			wantNode(t, fmt.Sprint("Op ", number), sources(1), n, api.ErrOp)
			wantNode(t, fmt.Sprint("Op alone ", number), nil, n, api.ErrOp)
		}
	}
}

// P11.1: no node, one, MaxNodes, and more; too many are found ahead of all else.
func TestHowMany(t *testing.T) {
	wantRefused(t, "no nodes", Pipeline{}, 0, api.ErrForm)
	wantRefused(t, "an empty list", Pipeline{Nodes: []Node{}}, 0, api.ErrForm)
	for _, many := range []int{1, 2, 31, 32} {
		wantRight(t, fmt.Sprint(many, " nodes"), pipe(sources(many)...))
	}
	for _, many := range []int{33, 34, 64, 1000} {
		nodes := sources(many)
		wantRefused(t, fmt.Sprint(many, " nodes"), pipe(nodes...), 0, api.ErrForm)
		nodes[0] = Node{}
		wantRefused(t, fmt.Sprint(many, " nodes, the first one wrong"), pipe(nodes...), 0, api.ErrForm)
		nodes[5] = sink(7)
		wantRefused(t, fmt.Sprint(many, " nodes, others wrong"), pipe(nodes...), 0, api.ErrForm)
	}
	chained := sources(1)
	for i := range 30 {
		chained = append(chained, flatten(i))
	}
	wantNode(t, "32 nodes in a row", chained, sink(30), api.OK)
	wantNode(t, "32 nodes in a row, the last one wrong", chained, sink(31), api.ErrInput)
}

// upTo are so many places, from 0 on.
func upTo(many int) []int {
	var places []int
	for i := range many {
		places = append(places, i)
	}
	return places
}

// P11.1: In with as many places as it may have, and with others, of each Op.
func TestHowManyIns(t *testing.T) {
	for _, n := range ofEach() {
		for many := range 9 {
			n.In = upTo(many)
			want := api.ErrInput
			if many == 1 && n.Op != Source || many == 0 && n.Op == Source || many >= 1 && many <= 4 && n.Op == Flatten {
				want = api.OK
			}
			wantNode(t, fmt.Sprintf("Op %d with %d Ins", n.Op, many), sources(8), n, want)
		}
		n.In = make([]int, 100000)
		wantNode(t, fmt.Sprintf("Op %d with very many Ins", n.Op), sources(8), n, api.ErrInput)
	}
}

// P11.1: Side with as many places as it may have, and with others, of each Op.
func TestHowManySides(t *testing.T) {
	for _, n := range ofEach() {
		for many := range 9 {
			n.Side = upTo(many)
			want := api.ErrInput
			if many == 0 || many <= 4 && n.Op == Each {
				want = api.OK
			}
			wantNode(t, fmt.Sprintf("Op %d with %d Sides", n.Op, many), sources(8), n, want)
		}
	}
}

// P11.1: places that rise, and such that don't; those of a Side may be those of In.
func TestRising(t *testing.T) {
	for _, c := range []struct {
		places []int
		want   api.Errno
	}{
		{[]int{0, 1}, api.OK}, {[]int{0, 7}, api.OK}, {[]int{3, 7}, api.OK}, {[]int{0, 1, 2, 3}, api.OK}, {[]int{1, 3, 5, 7}, api.OK}, {[]int{4, 5, 6, 7}, api.OK}, {[]int{5, 6, 7}, api.OK},
		{[]int{0, 0}, api.ErrInput}, {[]int{1, 0}, api.ErrInput}, {[]int{7, 7}, api.ErrInput}, {[]int{7, 3}, api.ErrInput}, {[]int{0, 1, 1}, api.ErrInput}, {[]int{1, 1, 2}, api.ErrInput}, {[]int{0, 2, 1}, api.ErrInput}, {[]int{2, 0, 1}, api.ErrInput},
		{[]int{0, 1, 2, 2}, api.ErrInput}, {[]int{0, 1, 3, 2}, api.ErrInput}, {[]int{0, 2, 1, 3}, api.ErrInput}, {[]int{1, 0, 2, 3}, api.ErrInput}, {[]int{0, 1, 2, 0}, api.ErrInput}, {[]int{3, 2, 1, 0}, api.ErrInput}, {[]int{4, 4, 4, 4}, api.ErrInput},
	} {
		wantNode(t, fmt.Sprint("Flatten of ", c.places), sources(8), flatten(c.places...), c.want)
		for in := range 8 {
			wantNode(t, fmt.Sprint("Each of ", in, " with Sides ", c.places), sources(8), each(in, "x", c.places...), c.want)
		}
	}
}

// P11.1: places of no node ahead, or of a Sink, in In and Side, first or last among others.
func TestPlaces(t *testing.T) {
	ahead := []Node{source("int"), sink(0), each(0, "x"), windowed(0, fixed), group(0, "x", plain), flatten(0), sink(5), source("text")}
	for _, c := range []struct {
		place int
		want  api.Errno
	}{
		{0, api.OK}, {2, api.OK}, {3, api.OK}, {4, api.OK}, {5, api.OK}, {7, api.OK},
		{1, api.ErrInput}, {6, api.ErrInput}, {8, api.ErrInput}, {9, api.ErrInput}, {10, api.ErrInput}, {31, api.ErrInput}, {32, api.ErrInput}, {1 << 32, api.ErrInput}, {mostInt, api.ErrInput},
		{-1, api.ErrInput}, {-2, api.ErrInput}, {-1 << 32, api.ErrInput}, {leastInt, api.ErrInput},
	} {
		for _, n := range ofEach()[1:] {
			n.In = []int{c.place}
			wantNode(t, fmt.Sprintf("Op %d with In %d", n.Op, c.place), ahead, n, c.want)
			// The node stands ahead of others, too, that are right by themselves: Check names it alone.
			p := pipe(append(append([]Node(nil), ahead...), n, source("int"), sink(0))...)
			if at, e := Check(p); e != c.want || e != api.OK && at != len(ahead) {
				t.Errorf("Op %d with In %d ahead of others: %d, %d; want %d", n.Op, c.place, at, e, c.want)
			}
		}
		wantNode(t, fmt.Sprint("Each with Side ", c.place), ahead, each(0, "x", c.place), c.want)
		if c.place < 7 && c.place != 0 {
			wantNode(t, fmt.Sprint("Flatten with last but ", c.place), ahead, flatten(c.place, 7), c.want)
			wantNode(t, fmt.Sprint("Each with Side with last but ", c.place), ahead, each(0, "x", c.place, 7), c.want)
		}
		if c.place > 0 {
			wantNode(t, fmt.Sprint("Flatten with last ", c.place), ahead, flatten(0, c.place), c.want)
			wantNode(t, fmt.Sprint("Each with last Side ", c.place), ahead, each(0, "x", 0, c.place), c.want)
		}
	}
}

// P11.1: each field that is not named for an Op has to be zero; an empty list is.
func TestUnnamed(t *testing.T) {
	set := []struct {
		what  string
		of    []int // the Ops that name it
		set   func(n *Node)
		error api.Errno
	}{
		{"In", []int{Each, Window, Group, Flatten, Sink}, func(n *Node) { n.In = []int{0} }, api.ErrInput},
		{"Side", []int{Each}, func(n *Node) { n.Side = []int{0} }, api.ErrInput},
		{"Text", []int{Each, Group}, func(n *Node) { n.Text = "x" }, api.ErrForm},
		{"Text of a byte 0", nil, func(n *Node) { n.Text = "\x00" }, api.ErrForm},
		{"Type", []int{Source}, func(n *Node) { n.Type = typeOf("int") }, api.ErrForm},
		{"Type of a kind that is none", nil, func(n *Node) { n.Type.Kind = -1 }, api.ErrForm},
		{"Type's Args", nil, func(n *Node) { n.Type = kind.Type{Args: []kind.Type{typeOf("int")}} }, api.ErrForm},
		{"Type's Args that are zero", nil, func(n *Node) { n.Type = kind.Type{Args: make([]kind.Type, 1)} }, api.ErrForm},
		{"Fn", []int{Window}, func(n *Node) { n.Fn = fixed }, api.ErrForm},
		{"Fn's Kind", nil, func(n *Node) { n.Fn = window.Fn{Kind: 1} }, api.ErrForm},
		{"Fn's Size", nil, func(n *Node) { n.Fn = window.Fn{Size: 1} }, api.ErrForm},
		{"Fn's Period", nil, func(n *Node) { n.Fn = window.Fn{Period: 1} }, api.ErrForm},
		{"Fn's Offset", nil, func(n *Node) { n.Fn = window.Fn{Offset: 1} }, api.ErrForm},
		{"Trig", []int{Group}, func(n *Node) { n.Trig = trigger.Spec{Early: 1, Late: 1, Lateness: 1, Accumulate: true} }, api.ErrForm},
		{"Trig's Early", []int{Group}, func(n *Node) { n.Trig = trigger.Spec{Early: 1} }, api.ErrForm},
		{"Trig's Late", nil, func(n *Node) { n.Trig = trigger.Spec{Late: 1} }, api.ErrForm},
		{"Trig's Lateness", []int{Group}, func(n *Node) { n.Trig = trigger.Spec{Lateness: 1} }, api.ErrForm},
		{"Trig's Accumulate", []int{Group}, func(n *Node) { n.Trig = trigger.Spec{Accumulate: true} }, api.ErrForm},
	}
	for _, n := range ofEach() {
		for _, s := range set {
			with := n
			s.set(&with)
			want := s.error
			if has(s.of, n.Op) {
				want = api.OK
			}
			wantNode(t, fmt.Sprintf("Op %d with %s", n.Op, s.what), sources(1), with, want)
		}
		if n.Op != Source {
			n.Type.Args = []kind.Type{}
		} else {
			n.In = []int{}
		}
		if n.Op != Each {
			n.Side = []int{}
		}
		wantNode(t, fmt.Sprintf("Op %d with empty lists", n.Op), sources(1), n, api.OK)
	}
}

func has(list []int, n int) bool {
	for _, m := range list {
		if m == n {
			return true
		}
	}
	return false
}

// P11.1: each field that is named for an Op has to be as the chapter says: none is so if it is zero, but for a Side, a Fn and a Trig.
func TestNamed(t *testing.T) {
	for _, c := range []struct {
		n     Node
		field string
		want  api.Errno
	}{
		{ofEach()[0], "Type", api.ErrForm}, {ofEach()[1], "In", api.ErrInput}, {ofEach()[1], "Text", api.ErrForm}, {each(0, "x", 0), "Side", api.OK},
		{ofEach()[2], "In", api.ErrInput}, {ofEach()[2], "Fn", api.OK}, {ofEach()[3], "In", api.ErrInput}, {ofEach()[3], "Text", api.ErrForm}, {ofEach()[3], "Trig", api.OK},
		{ofEach()[4], "In", api.ErrInput}, {ofEach()[5], "In", api.ErrInput},
	} {
		field := reflect.ValueOf(&c.n).Elem().FieldByName(c.field)
		field.SetZero()
		wantNode(t, fmt.Sprintf("Op %d without %s", c.n.Op, c.field), sources(1), c.n, c.want)
	}
}

// P11.1: Texts of all lengths at the ends, and with each byte at each end.
func TestTexts(t *testing.T) {
	for _, n := range []Node{each(0, ""), each(0, "", 0), group(0, "", plain)} {
		for _, c := range []struct {
			text string
			want api.Errno
		}{
			{"", api.ErrForm}, {"x", api.OK}, {" ", api.OK}, {"  ", api.OK}, {" x ", api.OK}, {"-", api.OK}, {",", api.OK}, {"each 0 - x", api.OK},
			{strings.Repeat("x", 999), api.OK}, {strings.Repeat("x", 1000), api.OK}, {strings.Repeat(" ", 1000), api.OK}, {strings.Repeat("x", 1001), api.ErrForm}, {strings.Repeat("x", 1002), api.ErrForm}, {strings.Repeat("x", 100000), api.ErrForm},
			{strings.Repeat("x", 998) + "\x1f", api.ErrForm}, {strings.Repeat("x", 999) + "\x7f", api.ErrForm}, {strings.Repeat("x", 999) + "~", api.OK}, {"ä", api.ErrForm}, {"x\n", api.ErrForm}, {"\x00", api.ErrForm},
		} {
			n.Text = c.text
			wantNode(t, fmt.Sprintf("Op %d with %.30q", n.Op, c.text), sources(1), n, c.want)
		}
		for b := range 256 {
			want := api.ErrForm
			if b >= 32 && b <= 126 {
				want = api.OK
			}
			for _, format := range []string{"%s", "%sx", "x%s", "x%sx", " %s "} {
				n.Text = fmt.Sprintf(format, string([]byte{byte(b)}))
				wantNode(t, fmt.Sprintf("Op %d with %q", n.Op, n.Text), sources(1), n, want)
			}
		}
	}
}

// P11.1: Types that are right, and such that are not, of each kind; one that stands in itself.
func TestTypes(t *testing.T) {
	for _, text := range []string{"bool", "int", "text", "bytes", "point", "pair(int,text)", "list(bytes)", "option(point)", "list(list(list(list(list(int)))))", "pair(pair(int,list(text)),option(bool))"} {
		wantNode(t, "Source of "+text, nil, source(text), api.OK)
	}
	integer := typeOf("int")
	itself := kind.Type{Kind: api.List, Args: make([]kind.Type, 1)}
	itself.Args[0] = itself
	both := kind.Type{Kind: api.Pair, Args: make([]kind.Type, 2)}
	both.Args[0], both.Args[1] = both, both
	for _, typ := range []kind.Type{
		{}, {Kind: -1}, {Kind: 10}, {Kind: api.None}, {Kind: api.None, Args: []kind.Type{integer}}, {Kind: leastInt}, {Kind: mostInt}, {Kind: 1<<32 + api.Int}, {Kind: 0, Args: []kind.Type{integer}},
		{Kind: api.Bool, Args: []kind.Type{integer}}, {Kind: api.Int, Args: []kind.Type{integer}}, {Kind: api.Text, Args: []kind.Type{integer}}, {Kind: api.Bytes, Args: []kind.Type{integer}}, {Kind: api.Point, Args: []kind.Type{integer}},
		{Kind: api.Pair}, {Kind: api.Pair, Args: []kind.Type{integer}}, {Kind: api.Pair, Args: []kind.Type{integer, {}}}, {Kind: api.Pair, Args: []kind.Type{{}, integer}}, {Kind: api.Pair, Args: []kind.Type{integer, integer, integer}},
		{Kind: api.List}, {Kind: api.List, Args: []kind.Type{{}}}, {Kind: api.List, Args: []kind.Type{integer, integer}}, {Kind: api.Some}, {Kind: api.Some, Args: []kind.Type{{Kind: api.None}}}, {Kind: api.Some, Args: []kind.Type{integer, integer}},
		{Kind: api.List, Args: []kind.Type{typeOf("list(list(list(list(list(int)))))")}}, {Kind: api.Int, Args: make([]kind.Type, 100000)}, itself, both,
	} {
		wantNode(t, fmt.Sprint("Source of kind ", typ.Kind, " with ", len(typ.Args), " Args"), nil, Node{Op: Source, Type: typ}, api.ErrForm)
	}
}

// P11.1: windowings that are right, and such that are not, of each kind.
func TestFns(t *testing.T) {
	for _, c := range []struct {
		fn   window.Fn
		want api.Errno
	}{
		{window.Fn{}, api.OK}, {window.Fn{Size: 1}, api.ErrForm}, {window.Fn{Offset: 1}, api.ErrForm},
		{window.Fn{Kind: 1, Size: 1}, api.OK}, {window.Fn{Kind: 1, Size: api.MaxTime, Offset: api.MaxTime - 1}, api.OK}, {window.Fn{Kind: 1}, api.ErrForm}, {window.Fn{Kind: 1, Size: api.MaxTime + 1}, api.ErrForm}, {window.Fn{Kind: 1, Size: 5, Offset: 5}, api.ErrForm}, {window.Fn{Kind: 1, Size: 5, Offset: -1}, api.ErrForm}, {window.Fn{Kind: 1, Size: 5, Period: 5}, api.ErrForm}, {window.Fn{Kind: 1, Size: -5}, api.ErrForm},
		{window.Fn{Kind: 2, Size: 1, Period: 1}, api.OK}, {window.Fn{Kind: 2, Size: 32, Period: 2, Offset: 1}, api.OK}, {window.Fn{Kind: 2, Size: 33, Period: 2}, api.ErrForm}, {window.Fn{Kind: 2, Size: 1, Period: 2}, api.ErrForm}, {window.Fn{Kind: 2, Size: 1}, api.ErrForm}, {window.Fn{Kind: 2, Size: 2, Period: 2, Offset: 2}, api.ErrForm}, {window.Fn{Kind: 2, Size: api.MaxTime, Period: api.MaxTime}, api.OK}, {window.Fn{Kind: 2, Size: api.MaxTime + 1, Period: api.MaxTime}, api.ErrForm},
		{window.Fn{Kind: 3, Size: 1}, api.OK}, {window.Fn{Kind: 3, Size: api.MaxTime}, api.OK}, {window.Fn{Kind: 3}, api.ErrForm}, {window.Fn{Kind: 3, Size: 5, Offset: 1}, api.ErrForm}, {window.Fn{Kind: 3, Size: 5, Period: 1}, api.ErrForm},
		{window.Fn{Kind: 4}, api.ErrForm}, {window.Fn{Kind: 4, Size: 5}, api.ErrForm}, {window.Fn{Kind: -1}, api.ErrForm}, {window.Fn{Kind: mostInt}, api.ErrForm}, {window.Fn{Kind: leastInt}, api.ErrForm},
	} {
		wantNode(t, fmt.Sprint("Window of ", c.fn), sources(1), windowed(0, c.fn), c.want)
	}
}

// P11.1: specs that are right, and such that are not.
func TestTrigs(t *testing.T) {
	for _, c := range []struct {
		early, late, lateness int
		want                  api.Errno
	}{
		{0, 0, 0, api.OK}, {1000, 0, 0, api.OK}, {0, 0, api.MaxTime, api.OK}, {1000, 1000, api.MaxTime, api.OK}, {0, 1, 1, api.OK}, {1, 2, 3, api.OK},
		{-1, 0, 0, api.ErrForm}, {1001, 0, 0, api.ErrForm}, {0, -1, 1, api.ErrForm}, {0, 1001, 1, api.ErrForm}, {0, 0, -1, api.ErrForm}, {0, 0, api.MaxTime + 1, api.ErrForm}, {0, 1, 0, api.ErrForm}, {leastInt, 0, 0, api.ErrForm}, {0, 0, mostInt, api.ErrForm},
	} {
		for _, accumulate := range []bool{false, true} {
			s := trigger.Spec{Early: c.early, Late: c.late, Lateness: c.lateness, Accumulate: accumulate}
			wantNode(t, fmt.Sprint("Group of ", s), sources(1), group(0, "sum", s), c.want)
		}
	}
}

// P11.1: at one node the error that is named first is told (it has the least number); at two that of the first one.
func TestFirst(t *testing.T) {
	spoil := []struct {
		want  api.Errno
		spoil func(n *Node)
	}{
		{api.ErrOp, func(n *Node) { n.Op = 7 }},
		{api.ErrInput, func(n *Node) { n.In = []int{-1} }},
		{api.ErrInput, func(n *Node) { n.In = []int{0, 1, 2, 0} }},
		{api.ErrInput, func(n *Node) { n.Side = []int{0, 0} }},
		{api.ErrForm, func(n *Node) { n.Text = "\n" }},
		{api.ErrForm, func(n *Node) { n.Type = kind.Type{Kind: 99} }},
		{api.ErrForm, func(n *Node) { n.Fn = window.Fn{Kind: 99} }},
		{api.ErrForm, func(n *Node) { n.Trig = trigger.Spec{Early: -1} }},
	}
	for _, n := range ofEach() {
		for i, one := range spoil {
			for k, two := range spoil {
				both, first, second := n, n, n
				one.spoil(&both)
				two.spoil(&both)
				one.spoil(&first)
				two.spoil(&second)
				ahead := sources(3)
				wantNode(t, fmt.Sprintf("Op %d spoilt as %d and %d", n.Op, i, k), ahead, both, min(one.want, two.want))
				wantRefused(t, fmt.Sprintf("Op %d spoilt as %d, ahead of one as %d", n.Op, i, k), pipe(append(ahead, first, second)...), 3, one.want)
			}
		}
	}
}
