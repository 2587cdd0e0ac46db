package coder

import (
	"encoding/binary"
	"encoding/hex"
	"math/rand"
	"strconv"
	"strings"
	"testing"

	"watershed/api"
	"watershed/kind"
	"watershed/value"
)

var none = api.Value{Kind: api.None}

func flag(n int) api.Value              { return api.Value{Kind: api.Bool, Int: n} }
func num(n int) api.Value               { return api.Value{Kind: api.Int, Int: n} }
func letters(s string) api.Value        { return api.Value{Kind: api.Text, Text: s} }
func raw(s string) api.Value            { return api.Value{Kind: api.Bytes, Text: s} }
func dot(re, im float64) api.Value      { return api.Value{Kind: api.Point, Point: complex(re, im)} }
func both(a, b api.Value) api.Value     { return api.Value{Kind: api.Pair, List: []api.Value{a, b}} }
func row(values ...api.Value) api.Value { return api.Value{Kind: api.List, List: values} }
func some(v api.Value) api.Value        { return api.Value{Kind: api.Some, List: []api.Value{v}} }

// times tells a list of n times v.
func times(n int, v api.Value) api.Value {
	l := row()
	for range n {
		l.List = append(l.List, v)
	}
	return l
}

// sized tells a value of list(list(a)), v one of a, that has just this size, if that can be.
func sized(size int, v api.Value) api.Value {
	each := sizeOf(v)
	top := row()
	left := size - 1
	for left > 0 {
		n := min((left-1)/each, api.MaxList)
		top.List = append(top.List, times(n, v))
		left -= 1 + n*each
	}
	return top
}

func sizeOf(v api.Value) int {
	n := 1
	for _, w := range v.List {
		n += sizeOf(w)
	}
	return n
}

// typeOf tells the type of a text.
func typeOf(s string) kind.Type {
	t, _, e := kind.Parse(s)
	if e != api.OK {
		panic(s)
	}
	return t
}

// textOf tells a right type's text.
func textOf(t kind.Type) string {
	s, _ := kind.Show(t)
	return s
}

// typesWithin tells all right types that are at most so deep.
func typesWithin(depth int) []kind.Type {
	types := []kind.Type{typeOf("bool"), typeOf("int"), typeOf("text"), typeOf("bytes"), typeOf("point")}
	if depth == 1 {
		return types
	}
	below := typesWithin(depth - 1)
	for _, a := range below {
		types = append(types, kind.Type{Kind: api.List, Args: []kind.Type{a}}, kind.Type{Kind: api.Some, Args: []kind.Type{a}})
		for _, b := range below {
			types = append(types, kind.Type{Kind: api.Pair, Args: []kind.Type{a, b}})
		}
	}
	return types
}

// anyType tells a right type that is at most so deep.
func anyType(r *rand.Rand, depth int) kind.Type {
	if depth == 1 || r.Intn(4) == 0 {
		return typesWithin(1)[r.Intn(5)]
	}
	t := kind.Type{Kind: []int{api.List, api.Some, api.Pair}[r.Intn(3)], Args: []kind.Type{anyType(r, depth-1)}}
	if t.Kind == api.Pair {
		t.Args = append(t.Args, anyType(r, depth-1))
	}
	return t
}

// wrongTypes are types that aren't right.
func wrongTypes() []kind.Type {
	whole := kind.Type{Kind: api.Int}
	deep, ring := whole, []kind.Type{whole}
	for range api.MaxKind {
		deep = kind.Type{Kind: api.List, Args: []kind.Type{deep}}
	}
	ring[0] = kind.Type{Kind: api.Some, Args: ring}
	return []kind.Type{
		{}, {Kind: -1}, {Kind: api.None}, {Kind: api.Some + 1}, {Kind: api.Pair}, {Kind: api.List}, {Kind: api.Some}, {Kind: api.Int, Args: ring},
		{Kind: api.Pair, Args: []kind.Type{whole}}, {Kind: api.Pair, Args: []kind.Type{whole, whole, whole}}, {Kind: api.List, Args: []kind.Type{whole, whole}},
		{Kind: api.List, Args: []kind.Type{{}}}, {Kind: api.Pair, Args: []kind.Type{whole, {Kind: api.None}}}, deep, ring[0],
	}
}

// anyOf tells a value of a type, made of few parts, so that two are often alike in part.
func anyOf(r *rand.Rand, t kind.Type) api.Value {
	v := api.Value{Kind: t.Kind}
	switch t.Kind {
	case api.Bool:
		v.Int = r.Intn(2)
	case api.Int:
		v.Int = []int{-1 << 63, -256, -2, -1, 0, 1, 255, 256, 1<<63 - 1, r.Int()}[r.Intn(10)]
	case api.Text, api.Bytes:
		v.Text = []string{"", "\x00", "\x00\x00", "\x00\xff", "\x00a", "\x01", "a", "a\x00", "a\x00b", "ab", "\xff", "\xff\x00"}[r.Intn(12)]
	case api.Point:
		v = value.Point(r.Intn(3)-1, []int{-1 << 20, -1, 0, 1<<20 - 1}[r.Intn(4)])
	case api.Pair:
		v.List = []api.Value{anyOf(r, t.Args[0]), anyOf(r, t.Args[1])}
	case api.List:
		for range r.Intn(4) {
			v.List = append(v.List, anyOf(r, t.Args[0]))
		}
	case api.Some:
		if v.List = []api.Value{anyOf(r, t.Args[0])}; r.Intn(3) == 0 {
			v = none
		}
	}
	return v
}

// plainBytes tells a value's bytes, as the chapter says them.
func plainBytes(v api.Value) string {
	switch v.Kind {
	case api.Bool:
		return string([]byte{byte(v.Int)})
	case api.Int:
		return string(binary.BigEndian.AppendUint64(nil, uint64(v.Int)^1<<63))
	case api.Text, api.Bytes:
		return strings.ReplaceAll(v.Text, "\x00", "\x00\xff") + "\x00\x00"
	case api.Point:
		return plainPart(real(v.Point)) + plainPart(imag(v.Point))
	case api.Pair:
		return plainBytes(v.List[0]) + plainBytes(v.List[1])
	case api.None:
		return "\x00"
	case api.Some:
		return "\x01" + plainBytes(v.List[0])
	}
	s := ""
	for _, w := range v.List {
		s += "\x01" + plainBytes(w)
	}
	return s + "\x00"
}

func plainPart(f float64) string {
	return string(binary.BigEndian.AppendUint32(nil, uint32(int(f)+1<<20)))[1:]
}

// plainRead reads a value of a type from bytes behind which all are 00, and tells what it leaves
// of them. It knows no limits: whether the value is right is left to kind.Has.
func plainRead(t kind.Type, s string) (v api.Value, left string, good bool) {
	v = api.Value{Kind: t.Kind}
	var b byte
	switch t.Kind {
	case api.Bool:
		b, left = head(s)
		v.Int = int(b)
		return v, left, true
	case api.Int:
		v.Int, left = plainNumber(s, 8)
		v.Int ^= -1 << 63
		return v, left, true
	case api.Text, api.Bytes:
		v.Text, left, good = plainText(s)
		return v, left, good
	case api.Point:
		re, s := plainNumber(s, 3)
		im, left := plainNumber(s, 3)
		return dot(float64(re-1<<20), float64(im-1<<20)), left, true
	case api.Pair:
		v.List = make([]api.Value, 2)
		v.List[0], s, good = plainRead(t.Args[0], s)
		if good {
			v.List[1], left, good = plainRead(t.Args[1], s)
		}
		return v, left, good
	}
	return plainList(v, t.Args[0], s)
}

// plainList reads what a list or an option has in it.
func plainList(v api.Value, t kind.Type, s string) (api.Value, string, bool) {
	for {
		b, left := head(s)
		if b == 0 && v.Kind == api.Some {
			return none, left, true
		}
		if b == 0 {
			return v, left, true
		}
		w, left, good := plainRead(t, left)
		if b != 1 || !good {
			return v, left, false
		}
		v.List = append(v.List, w)
		if v.Kind == api.Some {
			return v, left, true
		}
		s = left
	}
}

func plainText(s string) (text, left string, good bool) {
	for {
		b, after := head(s)
		if b == 0 {
			mark, end := head(after)
			if mark != 0xff {
				return text, end, mark == 0
			}
			after = end
		}
		text += string([]byte{b})
		s = after
	}
}

func plainNumber(s string, bytes int) (n int, left string) {
	for range bytes {
		b, left := head(s)
		n, s = n<<8+int(b), left
	}
	return n, s
}

// head tells the first byte, and what is left; where nothing is, 00.
func head(s string) (byte, string) {
	if s == "" {
		return 0, ""
	}
	return s[0], s[1:]
}

// begins: is s the beginning of the bytes of a value of t? Bytes 00 end every value soonest, with the
// fewest values in it: so s is one, if that which comes of it with such behind it is of t.
func begins(t kind.Type, s string) (v api.Value, yes bool) {
	v, _, good := plainRead(t, s)
	if !good || !kind.Has(t, v) || !strings.HasPrefix(plainBytes(v), s) {
		return api.Value{}, false
	}
	return v, true
}

// plainDecode tells what Decode should, as the chapter says it: by the beginnings of s one by one. The
// first bytes, so many, are known to begin a value's bytes and to be none.
func plainDecode(t kind.Type, s string, known int) (v api.Value, at int, e api.Errno) {
	for n := known; n < len(s); n++ {
		if _, yes := begins(t, s[:n+1]); !yes {
			return api.Value{}, n, api.ErrCode
		}
	}
	v, _ = begins(t, s)
	if plainBytes(v) != s {
		return api.Value{}, len(s), api.ErrShort
	}
	return v, 0, api.OK
}

// plainNext tells what Next should.
func plainNext(t kind.Type, s string, known int) (v api.Value, end int, e api.Errno) {
	v, at, e := plainDecode(t, s, known)
	if e == api.OK {
		return v, len(s), e
	}
	if v, _ := begins(t, s[:at]); plainBytes(v) == s[:at] {
		return v, at, api.OK
	}
	return v, at, e
}

// same: are they one and the same? No list of no values is one.
func same(a, b api.Value) bool {
	if a.Kind != b.Kind || a.Int != b.Int || a.Text != b.Text || a.Point != b.Point || len(a.List) != len(b.List) {
		return false
	}
	for i := range a.List {
		if !same(a.List[i], b.List[i]) {
			return false
		}
	}
	return true
}

// short tells bytes in few letters.
func short(s string) string {
	if len(s) > 40 {
		return "..." + hex.EncodeToString([]byte(s[len(s)-40:]))
	}
	return hex.EncodeToString([]byte(s))
}

// shown tells a value in few letters.
func shown(v api.Value) string {
	if v.Kind == 0 {
		return "nothing"
	}
	return "kind " + strconv.Itoa(v.Kind) + " of " + short(plainBytes(v))
}

// unhex tells the bytes of a text such as "01 ff".
func unhex(s string) string {
	b, e := hex.DecodeString(strings.ReplaceAll(s, " ", ""))
	if e != nil {
		panic(s)
	}
	return string(b)
}

func wantRead(t *testing.T, what string, ty kind.Type, s string, got api.Value, at int, e api.Errno, want api.Value, place int, fault api.Errno) {
	t.Helper()
	if e != fault || at != place || !same(got, want) {
		t.Errorf("%s(%s, %s): %s, %d, %d; want %s, %d, %d", what, textOf(ty), short(s), shown(got), at, e, shown(want), place, fault)
	}
}

// wantFault: do Decode and Next find this fault at just this place?
func wantFault(t *testing.T, ty kind.Type, s string, place int, fault api.Errno) {
	t.Helper()
	v, at, e := Decode(ty, []byte(s))
	wantRead(t, "Decode", ty, s, v, at, e, api.Value{}, place, fault)
	v, at, e = Next(ty, []byte(s))
	wantRead(t, "Next", ty, s, v, at, e, api.Value{}, place, fault)
}

// wantCoded: are these the value's bytes, both ways, also with something behind them?
func wantCoded(t *testing.T, ty kind.Type, v api.Value, s string) {
	t.Helper()
	b, e := Encode(ty, v)
	if string(b) != s || e != api.OK {
		t.Errorf("Encode(%s, %s): %s, %d; want %s", textOf(ty), shown(v), short(string(b)), e, short(s))
	}
	got, at, e := Decode(ty, []byte(s))
	wantRead(t, "Decode", ty, s, got, at, e, v, 0, api.OK)
	got, at, e = Next(ty, []byte(s))
	wantRead(t, "Next", ty, s, got, at, e, v, len(s), api.OK)
	for _, tail := range []string{"\x00", "\x01", "\xff", s + "\x7f"} {
		got, at, e = Decode(ty, []byte(s+tail))
		wantRead(t, "Decode", ty, s+tail, got, at, e, api.Value{}, len(s), api.ErrCode)
		got, at, e = Next(ty, []byte(s+tail))
		wantRead(t, "Next", ty, s+tail, got, at, e, v, len(s), api.OK)
	}
}

// wantPlain: do Decode and Next tell of these bytes what the chapter's words do? Known is as plainDecode has it.
func wantPlain(t *testing.T, ty kind.Type, s string, known int) {
	t.Helper()
	v, at, e := Decode(ty, []byte(s))
	want, place, fault := plainDecode(ty, s, known)
	wantRead(t, "Decode", ty, s, v, at, e, want, place, fault)
	v, at, e = Next(ty, []byte(s))
	want, place, fault = plainNext(ty, s, known)
	wantRead(t, "Next", ty, s, v, at, e, want, place, fault)
}
