package eval

import (
	"math/rand"
	"regexp"
	"slices"
	"strconv"
	"strings"
	"testing"

	"watershed/api"
	"watershed/expr"
	"watershed/kind"
)

// The ways to come to a type, as texts in which {t} stands for any term of the type t, and {t;x=u} for one in which x is bound to a u.
const (
	bools  = `true|false|not({bool})|and({bool},{bool})|or({bool},{bool})|eq({int},{int})|lt({int},{int})|lt({text},{text})|eq({bytes},{bytes})|lt({point},{point})|lt({bool},{bool})|lt({list(int)},{list(int)})|eq({list(text)},{list(text)})|lt({pair(int,text)},{pair(int,text)})|lt({option(int)},{option(int)})|eq({option(list(int))},{option(list(int))})|is_some({option(int)})|is_some({option(list(int))})`
	ints   = `0|1|-1|2|7|63|64|65|-9223372036854775808|9223372036854775807|1048576|add({int},{int})|sub({int},{int})|mul({int},{int})|div({int},{int})|mod({int},{int})|neg({int})|len({list(int)})|len({list(text)})|len({list(list(int))})|size({text})|size({bytes})|re({point})|im({point})|first({pair(int,text)})|fold({list(text)},{int},a,x,{int;a=int;x=text})`
	texts  = `""|"a"|"b\00"|"\ff\fe"|join({text},{text})|join({text},join({text},{text}))|cut({text},{int},{int})|text({bytes})|show({int})|second({pair(int,text)})|fold(range(40),{text},a,x,{text;a=text;x=int})`
	octs   = `bytes({text})|cut({bytes},{int},{int})`
	points = `point({int},{int})|add({point},{point})|sub({point},{point})|mul({point},{point})|neg({point})|conj({point})`
	// Of lists of a.
	lists = `nil(A)|list({A})|list({A},{A})|list({A},{A},{A})|cons({A},{T})|concat({T},{T})|sort({T})|map({list(int)},x,{A;x=int})|map({list(text)},y,{A;y=text})|map({T},x,{A;x=A})|filter({T},x,{bool;x=A})|fold({T},{T},a,x,{T;a=T;x=A})|fold({T},{T},x,x,{T;x=T;x=A})`
	// Of options of a.
	options = `none(A)|some({A})|at({list(A)},{int})`
	// Of all types.
	alls = `if({bool},{T},{T})|let(x,{int},{T;x=int})|let(y,{T},{T;y=T})|let(x,{list(int)},{T;x=list(int)})|first(pair({T},{int}))|second(pair({text},{T}))|or_else(some({T}),{T})|or_else(none(T),{T})|fold({list(int)},{T},a,x,{T;a=T;x=int})|fold(range(64),{T},a,x,{T;a=T;x=int})`
)

// ways are those to come to a type.
func ways(typ string) []string {
	all := alls
	inner := ""
	switch {
	case typ == "bool":
		all += "|" + bools + "|" + bools
	case typ == "int":
		all += "|" + ints + "|" + ints
	case typ == "text":
		all += "|" + texts + "|" + texts
	case typ == "bytes":
		all += "|" + octs
	case typ == "point":
		all += "|" + points
	case typ == "pair(int,text)":
		all += "|pair({int},{text})"
	case strings.HasPrefix(typ, "list("):
		inner = typ[len("list(") : len(typ)-1]
		all += "|" + lists
		if typ == "list(int)" {
			all += "|range({int})|range({int})"
		}
		if typ == "list(list(int))" {
			all += "|map(range(60),x,range(x))|map(range(63),x,range({int;x=int}))"
		}
	default:
		inner = typ[len("option(") : len(typ)-1]
		all += "|" + options
	}
	return strings.Split(strings.NewReplacer("A", inner, "T", typ).Replace(all), "|")
}

// leasts are terms of all types that have no more than there must be.
func leasts(typ string) string {
	switch {
	case typ == "bytes":
		return `bytes("x")`
	case typ == "point":
		return "point(-3,1048575)"
	case strings.HasPrefix(typ, "pair("):
		return `pair(1,"a")`
	case strings.HasPrefix(typ, "list("):
		return "nil" + typ[len("list"):]
	case strings.HasPrefix(typ, "option("):
		return "none" + typ[len("option"):]
	}
	return map[string]string{"bool": "true", "int": "3", "text": `"ab"`}[typ]
}

// called is a name and the type that it is bound to.
type called struct{ name, typ string }

// maker makes any terms.
type maker struct {
	r     *rand.Rand
	given []string // the types of it and of the sides
}

var hole = regexp.MustCompile(`\{[^}]*\}`)

// make makes a term of a type, in which these names are bound.
func (m *maker) make(typ string, room int, names []called) string {
	there := m.there(typ, names)
	switch {
	case len(there) > 0 && m.r.Intn(3) == 0:
		return there[m.r.Intn(len(there))]
	case room == 0:
		return leasts(typ)
	}
	all := ways(typ)
	return hole.ReplaceAllStringFunc(all[m.r.Intn(len(all))], func(h string) string {
		parts := strings.Split(h[1:len(h)-1], ";")
		more := slices.Clone(names)
		for _, p := range parts[1:] {
			name, typ, _ := strings.Cut(p, "=")
			more = append(more, called{name, typ})
		}
		return m.make(parts[0], room-1, more)
	})
}

// there tells what there is of a type: it, sides and names.
func (m *maker) there(typ string, names []called) []string {
	var all []string
	for i, t := range m.given {
		if t == typ {
			all = append(all, map[bool]string{true: "it", false: "side(" + strconv.Itoa(i-1) + ")"}[i == 0])
		}
	}
	seen := map[string]bool{}
	for _, n := range slices.Backward(names) {
		if n.typ == typ && !seen[n.name] {
			all = append(all, n.name, n.name)
		}
		seen[n.name] = true
	}
	return all
}

// value makes any value of a type.
func (m *maker) value(t kind.Type) api.Value {
	v := api.Value{Kind: t.Kind}
	letters := func() string {
		most := []int{0, 1, 3, 256}[m.r.Intn(4)]
		s := make([]byte, most)
		for i := range s {
			s[i] = []byte("ab\x00\xff")[m.r.Intn(4)]
		}
		return string(s)
	}
	switch t.Kind {
	case api.Bool:
		v.Int = m.r.Intn(2)
	case api.Int:
		v.Int = []int{m.r.Intn(5), m.r.Intn(100), -m.r.Intn(5), int(m.r.Uint64())}[m.r.Intn(4)]
	case api.Text, api.Bytes:
		v.Text = letters()
	case api.Point:
		v.Point = complex(float64(m.r.Intn(1<<21)-1<<20), float64(m.r.Intn(9)-4))
	case api.Pair:
		v.List = []api.Value{m.value(t.Args[0]), m.value(t.Args[1])}
	case api.List:
		for range []int{0, 1, 2, 5, 20}[m.r.Intn(5)] {
			v.List = append(v.List, m.value(t.Args[0]))
		}
	case api.Some:
		if m.r.Intn(3) == 0 {
			return none()
		}
		v.List = []api.Value{m.value(t.Args[0])}
	}
	return v
}

// P6.2: any functions of any values, held against the chapter's words.
func TestAny(t *testing.T) {
	types := []string{"bool", "int", "text", "bytes", "point", "pair(int,text)", "list(int)", "list(text)", "list(list(int))", "list(bool)", "list(pair(int,text))", "option(int)", "option(list(int))"}
	r := rand.New(rand.NewSource(6))
	ended, run, cut := 0, 0, 0
	seen := map[string]int{}
	for range 30000 {
		m := &maker{r: r}
		g := given{}
		for i := range 1 + r.Intn(4) {
			typ := types[r.Intn(len(types))]
			m.given = append(m.given, typ)
			if i == 0 {
				g.env.It, g.it = typeOf(typ), m.value(typeOf(typ))
			} else {
				g.env.Sides, g.sides = append(g.env.Sides, typeOf(typ)), append(g.sides, m.value(typeOf(typ)))
			}
		}
		s := m.make(types[r.Intn(len(types))], 1+r.Intn(5), nil)
		if _, _, e := expr.Parse(s); e == api.ErrLong {
			continue
		}
		answer := g.wantPlain(t, s)
		switch {
		case answer == "":
			ended++
		case len(answer) > 250:
			cut++
		default:
			run++
		}
		seen[s[:strings.IndexAny(s+"(", "(")]]++
	}
	if ended < 300 || run < 10000 || cut < 300 || len(seen) < 50 {
		t.Errorf("too few of a kind: %d ended, %d run, %d long, by %d words", ended, run, cut, len(seen))
	}
}
