package graph

import (
	"fmt"
	"math/rand"
	"reflect"
	"regexp"
	"slices"
	"strconv"
	"strings"
	"testing"

	"watershed/api"
	"watershed/kind"
	"watershed/trigger"
	"watershed/window"
)

// The chapter's table, set down a second time: how many places may stand in In and Side of each Op, and what else is named for it.
var table = map[int]struct {
	ins   string // the numbers of Ins that may be
	sides string
	named []string
}{
	1: {"0", "0", []string{"Type"}}, 2: {"1", "01234", []string{"Text"}}, 3: {"1", "0", []string{"Fn"}},
	4: {"1", "0", []string{"Text", "Trig"}}, 5: {"1234", "0", nil}, 6: {"1", "0", nil},
}

var rightText = regexp.MustCompile(`\A[ -~]{1,1000}\z`)

// fieldRight: is a field, that is neither Op nor a list of places, as it has to be, if it is named?
var fieldRight = map[string]func(n Node) bool{
	"Type": func(n Node) bool { _, e := kind.Show(n.Type); return e == api.OK },
	"Fn":   func(n Node) bool { _, e := n.Fn.Assign(0); return e == api.OK },
	"Trig": func(n Node) bool { _, e := trigger.New(n.Trig); return e == api.OK },
	"Text": func(n Node) bool { return rightText.MatchString(n.Text) },
}

// plainNode tells what is wrong with the node i, as P11.1 says it.
func plainNode(nodes []Node, i int) api.Errno {
	n := nodes[i]
	row, found := table[n.Op]
	if !found {
		return 110
	}
	for may, places := range map[string][]int{row.ins + "i": n.In, row.sides + "s": n.Side} {
		if !strings.Contains(may, strconv.Itoa(len(places))) {
			return 111
		}
		if !rise(places) {
			return 111
		}
		for _, at := range places {
			if at < 0 || at >= i || nodes[at].Op == 6 {
				return 111
			}
		}
	}
	for field, right := range fieldRight {
		zero := reflect.ValueOf(bare(n)).FieldByName(field).IsZero()
		if slices.Contains(row.named, field) && !right(n) || !slices.Contains(row.named, field) && !zero {
			return 112
		}
	}
	return 0
}

// plainCheck is Check as P11.1 says it.
func plainCheck(p Pipeline) (int, api.Errno) {
	if len(p.Nodes) < 1 || len(p.Nodes) > 32 {
		return 0, 112
	}
	for i := range p.Nodes {
		if e := plainNode(p.Nodes, i); e != 0 {
			return i, e
		}
	}
	return 0, 0
}

// The form of lines, as the chapter says it; that of types, and whether places rise, is looked at on its own.
const (
	place  = `(0|[1-9][0-9]{0,2})`
	places = place + `(,` + place + `){0,3}`
	number = `(0|[1-9][0-9]{0,6})`
	text   = `([ -~]{1,1000})`
)

var forms = map[int]*regexp.Regexp{
	1: regexp.MustCompile(`\Asource (.*)\z`),
	2: regexp.MustCompile(`\Aeach ` + place + ` (-|` + places + `) ` + text + `\z`),
	3: regexp.MustCompile(`\Awindow ` + place + ` ` + number + ` ` + number + ` ` + number + ` ` + number + `\z`),
	4: regexp.MustCompile(`\Agroup ` + place + ` ` + number + ` ` + number + ` ` + number + ` (acc|dis) ` + text + `\z`),
	5: regexp.MustCompile(`\Aflatten (` + places + `)\z`),
	6: regexp.MustCompile(`\Asink ` + place + `\z`),
}

// plainLine tells the node of a line, if it is one of any.
func plainLine(line string) (n Node, found bool) {
	for number, form := range forms {
		parts := form.FindStringSubmatch(line)
		if parts == nil {
			continue
		}
		n.Op = number
		switch number {
		case 1:
			t, _, e := kind.Parse(parts[1])
			n.Type = t
			return n, e == api.OK
		case 2:
			n.In, n.Side, n.Text = ints(parts[1]), ints(parts[2]), parts[6]
		case 3:
			n.In = ints(parts[1])
			fmt.Sscan(strings.Join(parts[2:], " "), &n.Fn.Kind, &n.Fn.Size, &n.Fn.Period, &n.Fn.Offset)
		case 4:
			n.In, n.Text, n.Trig.Accumulate = ints(parts[1]), parts[6], parts[5] == "acc"
			fmt.Sscan(strings.Join(parts[2:5], " "), &n.Trig.Early, &n.Trig.Late, &n.Trig.Lateness)
		default:
			n.In = ints(parts[1])
		}
		return n, rise(n.In) && rise(n.Side)
	}
	return Node{}, false
}

// rise: do places stand as they would if they were sorted, none of them twice?
func rise(places []int) bool {
	return slices.Equal(slices.Compact(slices.Sorted(slices.Values(places))), places)
}

func ints(text string) (list []int) {
	if text == "-" {
		return nil
	}
	for _, s := range strings.Split(text, ",") {
		n, _ := strconv.Atoi(s)
		list = append(list, n)
	}
	return list
}

// plainParse is Parse as P11.2 says it.
func plainParse(s string) (p Pipeline, at int, e api.Errno) {
	texts := strings.Split(s, "\n")
	for i, line := range texts[:len(texts)-1] {
		n, found := plainLine(line)
		if !found {
			return Pipeline{}, i, 40
		}
		p.Nodes = append(p.Nodes, n)
	}
	if texts[len(texts)-1] != "" {
		return Pipeline{}, len(texts) - 1, 40
	}
	if at, e := plainCheck(p); e != 0 {
		return Pipeline{}, at, e
	}
	return p, 0, 0
}

// plainAbove tells which nodes of a right pipeline are above which, as the chapter says it: as long as another one is found.
func plainAbove(p Pipeline) map[[2]int]bool {
	above := map[[2]int]bool{}
	for more := true; more; {
		found := len(above)
		for b, n := range p.Nodes {
			for _, from := range append(slices.Clone(n.In), n.Side...) {
				above[[2]int{from, b}] = true
				for a := range p.Nodes {
					if above[[2]int{a, from}] {
						above[[2]int{a, b}] = true
					}
				}
			}
		}
		more = len(above) > found
	}
	return above
}

// wantPlain: all calls tell of a pipeline what the chapter says; so does a builder of one that is right.
func wantPlain(t *testing.T, p Pipeline) api.Errno {
	t.Helper()
	place, want := plainCheck(p)
	if want != api.OK {
		wantRefused(t, "any pipeline", p, place, want)
	} else {
		wantRight(t, "any pipeline", p)
		wantDone(t, "any pipeline", p)
		wantLeading(t, p)
	}
	if t.Failed() {
		t.Fatalf("of the pipeline %v", p)
	}
	return want
}

// wantLeading: Users, Above and Live of a right pipeline are what the chapter says.
func wantLeading(t *testing.T, p Pipeline) {
	t.Helper()
	isAbove := plainAbove(p)
	var live []int
	for a, n := range p.Nodes {
		var above, users []int
		leads := n.Op == 6
		for b, m := range p.Nodes {
			if isAbove[[2]int{b, a}] {
				above = append(above, b)
			}
			if slices.Contains(m.In, a) || slices.Contains(m.Side, a) {
				users = append(users, b)
			}
			leads = leads || m.Op == 6 && isAbove[[2]int{a, b}]
		}
		wantPlaces(t, "Users", Users(p, a), users...)
		wantPlaces(t, "Above", Above(p, a), above...)
		if leads {
			live = append(live, a)
		}
	}
	wantPlaces(t, "Live", Live(p), live...)
}

// some makes pipelines from any numbers.
type some struct{ *rand.Rand }

// places tells up to so many places ahead of one, rising, of no Sinks.
func (r some) places(nodes []Node, many int) []int {
	var all []int
	for range many {
		if at := r.Intn(len(nodes)); nodes[at].Op != Sink && !slices.Contains(all, at) {
			all = append(all, at)
		}
	}
	slices.Sort(all)
	return all
}

// node tells a node that may stand behind these.
func (r some) node(nodes []Node) Node {
	types := []string{"int", "text", "pair(int,int)", "list(option(point))"}
	ins := r.places(nodes, 1)
	if len(ins) == 0 || r.Intn(8) == 0 {
		return source(types[r.Intn(4)])
	}
	texts := []string{"x", " ", "list(it)", "-", "acc x ", "0,1"}
	switch r.Intn(8) {
	case 0, 1, 2:
		return each(ins[0], texts[r.Intn(6)], r.places(nodes, r.Intn(5))...)
	case 3:
		return windowed(ins[0], []window.Fn{{}, fixed, {Kind: 2, Size: 10, Period: 5, Offset: 4}, {Kind: 3, Size: 7}}[r.Intn(4)])
	case 4:
		return group(ins[0], texts[r.Intn(6)], []trigger.Spec{{}, plain, {Early: 10}, {Late: 3, Lateness: 20, Accumulate: true}}[r.Intn(4)])
	case 5, 6:
		all := r.places(nodes, 4)
		if len(all) > 0 {
			return flatten(all...)
		}
	}
	return sink(ins[0])
}

// pipeline tells a right one.
func (r some) pipeline(many int) Pipeline {
	nodes := sources(1)
	for len(nodes) < many {
		nodes = append(nodes, r.node(nodes))
	}
	return pipe(nodes...)
}

// change changes one thing in a node.
func (r some) change(n *Node) {
	anyInt := func() int {
		return []int{-1, 0, 1, 2, 3, 5, 8, 31, 1000, 1001, leastInt, mostInt, api.MaxTime + 1}[r.Intn(13)]
	}
	lists := []*[]int{&n.In, &n.Side}
	list := lists[r.Intn(2)]
	switch r.Intn(9) {
	case 0:
		n.Op = r.Intn(9) - 1
	case 1:
		*list = append(slices.Clone(*list), anyInt())
	case 2:
		*list = nil
	case 3:
		if len(*list) > 0 {
			*list = slices.Clone(*list)
			(*list)[r.Intn(len(*list))] = anyInt()
		}
	case 4:
		n.Text = []string{"", "x", "\n", strings.Repeat("x", 1001)}[r.Intn(4)]
	case 5:
		n.Type = []kind.Type{{}, typeOf("int"), {Kind: api.List}, {Args: make([]kind.Type, 1)}}[r.Intn(4)]
	case 6:
		*[]*int{&n.Fn.Kind, &n.Fn.Size, &n.Fn.Period, &n.Fn.Offset}[r.Intn(4)] = anyInt()
	case 7:
		*[]*int{&n.Trig.Early, &n.Trig.Late, &n.Trig.Lateness}[r.Intn(3)] = anyInt()
	case 8:
		n.Trig.Accumulate = !n.Trig.Accumulate
	}
}

// P11.1 to P11.4: any pipelines, right ones, and such in which one thing or two were changed, are what the chapter says of them.
func TestPlain(t *testing.T) {
	r := some{rand.New(rand.NewSource(111))}
	met := map[api.Errno]int{}
	for i := range 6000 {
		p := r.pipeline(1 + r.Intn(12+i%2*21))
		for range r.Intn(4) {
			at := r.Intn(len(p.Nodes))
			r.change(&p.Nodes[at])
		}
		met[wantPlain(t, p)]++
	}
	for _, e := range []api.Errno{api.OK, api.ErrOp, api.ErrInput, api.ErrForm} {
		if met[e] < 150 {
			t.Errorf("too few of %d: %v", e, met)
		}
	}
}

// wantPlainText: Parse tells of a text what the chapter says.
func wantPlainText(t *testing.T, s string) api.Errno {
	t.Helper()
	p, at, e := Parse(s)
	want, place, wrong := plainParse(s)
	if at != place || e != wrong || !alike(p, want) {
		t.Errorf("Parse(%q): %v, %d, %d; want %v, %d, %d", s, p, at, e, want, place, wrong)
	}
	if e != api.OK {
		return e
	}
	if text, e := Show(p); text != s || e != api.OK {
		t.Errorf("Show of what is read of %q: %q, %d", s, text, e)
	}
	return api.OK
}

// P11.2: texts in which any bytes were changed, taken or laid in, or lines were moved, are read as the chapter says.
func TestPlainTexts(t *testing.T) {
	r := some{rand.New(rand.NewSource(112))}
	met := map[api.Errno]int{}
	// usual are bytes that stand in texts, and some that stand in none.
	const usual = "  \n\n--,,,0012359+acdisxeachsinkflattengroup\x1f\x7f"
	for range 40000 {
		s, e := Show(r.pipeline(1 + r.Intn(8)))
		if e != api.OK {
			t.Fatalf("Show: %d", e)
		}
		for range r.Intn(3) {
			at := r.Intn(len(s))
			b := usual[r.Intn(len(usual)):][:1]
			switch r.Intn(6) {
			case 0:
				s = s[:at] + b + s[at+1:]
			case 1:
				s = s[:at] + s[at+1:] + "\n"
			case 2:
				s = s[:at] + b + s[at:]
			case 3:
				all := strings.SplitAfter(s, "\n")
				i, k := r.Intn(len(all)), r.Intn(len(all))
				all[i], all[k] = all[k], all[i]
				s = strings.Join(all, "")
			default:
				all := strings.Split(s, " ")
				all[r.Intn(len(all))] = []string{"0", "7", "01", "999", "1000", "1001", "9999999", "10000000", "-", "0,1", "1,0", "0,0", "0,7", "0,1,2,3", "0,1,2,3,4", "acc", "dis", "x", ""}[r.Intn(19)]
				s = strings.Join(all, " ")
			}
		}
		met[wantPlainText(t, s)]++
	}
	for _, e := range []api.Errno{api.OK, api.ErrInput, api.ErrForm, api.ErrSyntax} {
		if met[e] < 150 {
			t.Errorf("too few of %d: %v", e, met)
		}
	}
}

// P11.2: right texts with each byte in place of each, laid in ahead of each, and without each.
func TestEachByte(t *testing.T) {
	for _, s := range []string{
		lines("source int", "source pair(int,text)", "each 0 - ab", "each 0 0,1 a b", "sink 3"),
		lines("source bool", "window 0 2 10 5 0", "group 1 0 12 7 acc s m", "flatten 0,1,2", "sink 10"),
	} {
		for at := range len(s) + 1 {
			for b := range 256 {
				in := string([]byte{byte(b)})
				wantPlainText(t, s[:at]+in+s[at:])
				if at < len(s) {
					wantPlainText(t, s[:at]+in+s[at+1:])
				}
			}
			wantPlainText(t, s[:at])
			wantPlainText(t, s[at:])
			if at < len(s) {
				wantPlainText(t, s[:at]+s[at+1:])
			}
		}
	}
}
