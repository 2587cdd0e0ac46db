package eval

import (
	"bytes"
	"cmp"
	"fmt"
	"math/big"
	"slices"
	"strconv"
	"strings"

	"watershed/api"
	"watershed/expr"
)

// The chapter's words over values of Go's own: bool, int, string, octets, dot, twin, row and maybe.
type (
	octets string
	dot    struct{ re, im int }
	twin   struct{ a, b any }
	row    []any
	maybe  struct{ has []any }
)

// scope is a name, what it is bound to, and what is around.
type scope struct {
	name  string
	to    any
	outer *scope
}

// plain runs a term by the chapter's words; the end is a panic.
type plain struct {
	it    any
	sides []any
	fuel  int
}

type theEnd struct{}

// plainRun tells what a term comes to, as a text, and its fuel; nothing and 0, if all ends.
func plainRun(n expr.Node, g given) (answer string, fuel int) {
	defer func() {
		if r := recover(); r != nil {
			if _, ended := r.(theEnd); !ended {
				panic(r)
			}
			answer, fuel = "", 0
		}
	}()
	p := &plain{it: plainOf(g.it)}
	for _, s := range g.sides {
		p.sides = append(p.sides, plainOf(s))
	}
	v := p.run(n, nil)
	return plainShown(v), p.fuel
}

func plainOf(v api.Value) any {
	all := row{}
	for _, w := range v.List {
		all = append(all, plainOf(w))
	}
	switch v.Kind {
	case api.Bool:
		return v.Int == 1
	case api.Int:
		return v.Int
	case api.Text:
		return v.Text
	case api.Bytes:
		return octets(v.Text)
	case api.Point:
		return dot{int(real(v.Point)), int(imag(v.Point))}
	case api.Pair:
		return twin{all[0], all[1]}
	case api.List:
		return all
	}
	return maybe{all}
}

func plainShown(v any) string {
	switch x := v.(type) {
	case string:
		s := strconv.QuoteToASCII(x)
		return `"` + s[1:len(s)-1] + `"`
	case octets:
		s := strconv.QuoteToASCII(string(x))
		return "'" + s[1:len(s)-1] + "'"
	case dot:
		return fmt.Sprintf("<%d %d>", x.re, x.im)
	case twin:
		return "(" + plainShown(x.a) + " " + plainShown(x.b) + ")"
	case row:
		parts := []string{}
		for _, w := range x {
			parts = append(parts, plainShown(w))
		}
		return "[" + strings.Join(parts, " ") + "]"
	case maybe:
		if len(x.has) == 0 {
			return "none"
		}
		return "!" + plainShown(x.has[0])
	}
	return fmt.Sprint(v)
}

func plainSize(v any) int {
	all := []any{}
	switch x := v.(type) {
	case twin:
		all = []any{x.a, x.b}
	case row:
		all = x
	case maybe:
		all = x.has
	}
	size := 1
	for _, w := range all {
		size += plainSize(w)
	}
	return size
}

// plainOrder tells how two values of one type stand in layer 1's order: None is ahead of Some.
func plainOrder(v, w any) int {
	switch x := v.(type) {
	case bool:
		return cmp.Compare(fmt.Sprint(x), fmt.Sprint(w))
	case int:
		return cmp.Compare(x, w.(int))
	case string:
		return bytes.Compare([]byte(x), []byte(w.(string)))
	case octets:
		return bytes.Compare([]byte(x), []byte(w.(octets)))
	case dot:
		y := w.(dot)
		return cmp.Or(cmp.Compare(x.re, y.re), cmp.Compare(x.im, y.im))
	case twin:
		y := w.(twin)
		return cmp.Or(plainOrder(x.a, y.a), plainOrder(x.b, y.b))
	case row:
		return slices.CompareFunc(x, w.(row), plainOrder)
	case maybe:
		return slices.CompareFunc(x.has, w.(maybe).has, plainOrder)
	}
	panic("no value")
}

// plainInt takes a number modulo 2^64, as one from -2^63 to 2^63 - 1.
func plainInt(n *big.Int) int {
	all := new(big.Int).Lsh(big.NewInt(1), 64)
	n = new(big.Int).Mod(n, all)
	if n.Bit(63) == 1 {
		n.Sub(n, all)
	}
	return int(n.Int64())
}

func plainPoint(re, im *big.Int) dot {
	part := func(n *big.Int) int {
		left := int(new(big.Int).Mod(n, big.NewInt(1<<21)).Int64())
		if left >= 1<<20 {
			left -= 1 << 21
		}
		return left
	}
	return dot{part(re), part(im)}
}

func whole(n any) *big.Int { return big.NewInt(int64(n.(int))) }

// run tells what a term comes to.
func (p *plain) run(n expr.Node, names *scope) any {
	p.fuel++
	if p.fuel > 2000 {
		panic(theEnd{})
	}
	v := p.value(n, names)
	if plainSize(v) > 2000 {
		panic(theEnd{})
	}
	return v
}

func (p *plain) value(n expr.Node, names *scope) any {
	kid := func(i int, more ...*scope) any {
		inner := names
		for _, s := range more {
			s.outer = inner
			inner = s
		}
		return p.run(n.Kids[i], inner)
	}
	bound := func(i int, v any) *scope { return &scope{name: n.Kids[i].Text, to: v} }
	switch n.Op {
	case "int":
		return n.Int
	case "text_of":
		return n.Text
	case "true":
		return true
	case "false":
		return false
	case "it":
		return p.it
	case "side":
		return p.sides[n.Int]
	case "nil":
		return row{}
	case "none":
		return maybe{}
	case "name":
		for ; names.name != n.Text; names = names.outer {
		}
		return names.to
	case "if":
		if kid(0).(bool) {
			return kid(1)
		}
		return kid(2)
	case "let":
		return kid(2, bound(0, kid(1)))
	case "map":
		all := row{}
		for _, x := range kid(0).(row) {
			all = append(all, kid(2, bound(1, x)))
		}
		return all
	case "filter":
		all := row{}
		for _, x := range kid(0).(row) {
			if kid(2, bound(1, x)).(bool) {
				all = append(all, x)
			}
		}
		return all
	case "fold":
		l := kid(0).(row)
		y := kid(1)
		for _, x := range l {
			y = kid(4, bound(2, y), bound(3, x))
		}
		return y
	}
	all := []any{}
	for i := range n.Kids {
		all = append(all, kid(i))
	}
	return plainWord(n.Op, all)
}

func plainWord(word string, k []any) any {
	switch word {
	case "and":
		return k[0].(bool) && k[1].(bool)
	case "or":
		return k[0].(bool) || k[1].(bool)
	case "not":
		return !k[0].(bool)
	case "eq":
		return plainOrder(k[0], k[1]) == 0
	case "lt":
		return plainOrder(k[0], k[1]) == -1
	case "pair":
		return twin{k[0], k[1]}
	case "first":
		return k[0].(twin).a
	case "second":
		return k[0].(twin).b
	case "some":
		return maybe{k}
	case "is_some":
		return len(k[0].(maybe).has) == 1
	case "or_else":
		return append(slices.Clone(k[0].(maybe).has), k[1])[0]
	case "point":
		return plainPoint(whole(k[0]), whole(k[1]))
	case "re":
		return k[0].(dot).re
	case "im":
		return k[0].(dot).im
	case "conj":
		return plainPoint(whole(k[0].(dot).re), new(big.Int).Neg(whole(k[0].(dot).im)))
	case "list", "cons", "concat", "len", "at", "sort", "range":
		return plainList(word, k)
	case "join", "size", "cut", "bytes", "text", "show":
		return plainText(word, k)
	}
	if _, isDot := k[0].(dot); isDot {
		return plainDots(word, k)
	}
	return plainNumbers(word, k)
}

func plainNumbers(word string, k []any) any {
	if word == "neg" {
		return plainInt(new(big.Int).Neg(whole(k[0])))
	}
	a, b, n := whole(k[0]), whole(k[1]), new(big.Int)
	switch word {
	case "add":
		n.Add(a, b)
	case "sub":
		n.Sub(a, b)
	case "mul":
		n.Mul(a, b)
	case "div":
		if b.Sign() != 0 {
			n.Quo(a, b)
		}
	case "mod":
		if b.Sign() != 0 {
			n.Rem(a, b)
		}
	default:
		panic("no word: " + word)
	}
	return plainInt(n)
}

func plainDots(word string, k []any) any {
	a, c := whole(k[0].(dot).re), whole(k[0].(dot).im)
	re, im := new(big.Int), new(big.Int)
	if word == "neg" {
		return plainPoint(re.Neg(a), im.Neg(c))
	}
	b, d := whole(k[1].(dot).re), whole(k[1].(dot).im)
	switch word {
	case "add":
		return plainPoint(re.Add(a, b), im.Add(c, d))
	case "sub":
		return plainPoint(re.Sub(a, b), im.Sub(c, d))
	case "mul":
		re.Sub(new(big.Int).Mul(a, b), new(big.Int).Mul(c, d))
		im.Add(new(big.Int).Mul(a, d), new(big.Int).Mul(c, b))
		return plainPoint(re, im)
	}
	panic("no word: " + word)
}

func plainList(word string, k []any) any {
	all := row{}
	switch word {
	case "list":
		all = k
	case "cons":
		all = append(row{k[0]}, k[1].(row)...)
	case "concat":
		all = append(append(all, k[0].(row)...), k[1].(row)...)
	case "len":
		return len(k[0].(row))
	case "at":
		for i, v := range k[0].(row) {
			if i == k[1].(int) {
				return maybe{[]any{v}}
			}
		}
		return maybe{}
	case "sort":
		// Each one is laid behind the last one that isn't greater.
		for _, v := range k[0].(row) {
			place := len(all)
			for place > 0 && plainOrder(all[place-1], v) > 0 {
				place--
			}
			all = slices.Insert(all, place, v)
		}
	case "range":
		for i := 0; i < k[0].(int) && i < 100; i++ {
			all = append(all, i)
		}
	}
	if len(all) > 64 {
		all = all[:64]
	}
	return all
}

func plainText(word string, k []any) any {
	s, isText := k[0].(string)
	if b, isBytes := k[0].(octets); isBytes {
		s = string(b)
	}
	all := ""
	switch word {
	case "join":
		all = s + k[1].(string)
	case "size":
		return len(s)
	case "cut":
		for i := range len(s) {
			if i >= k[1].(int) && i < k[2].(int) {
				all += s[i : i+1]
			}
		}
	case "bytes":
		all, isText = s, false
	case "text":
		all, isText = s, true
	case "show":
		all, isText = fmt.Sprintf("%d", k[0]), true
	}
	if len(all) > 256 {
		all = all[:256]
	}
	if isText {
		return all
	}
	return octets(all)
}
