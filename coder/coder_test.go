package coder

import (
	"bytes"
	"math"
	"math/rand"
	"strings"
	"testing"
	"unsafe"

	"watershed/api"
	"watershed/kind"
	"watershed/value"
)

// P3.1, P3.3, P3.4: the bytes of values of every kind, the edges among them.
func TestBytes(t *testing.T) {
	for _, c := range []struct {
		t    string
		v    api.Value
		want string
	}{
		{"bool", flag(0), "00"}, {"bool", flag(1), "01"},
		{"int", num(-1 << 63), "00 00 00 00 00 00 00 00"}, {"int", num(-1<<63 + 1), "00 00 00 00 00 00 00 01"}, {"int", num(-1), "7f ff ff ff ff ff ff ff"}, {"int", num(0), "80 00 00 00 00 00 00 00"},
		{"int", num(1), "80 00 00 00 00 00 00 01"}, {"int", num(0x0102030405060708), "81 02 03 04 05 06 07 08"}, {"int", num(1<<63 - 1), "ff ff ff ff ff ff ff ff"},
		{"text", letters(""), "00 00"}, {"text", letters("a"), "61 00 00"}, {"text", letters("\x00"), "00 ff 00 00"}, {"text", letters("\x00\x00"), "00 ff 00 ff 00 00"}, {"text", letters("a\x00b"), "61 00 ff 62 00 00"},
		{"text", letters("a\x00"), "61 00 ff 00 00"}, {"text", letters("\x00\xff"), "00 ff ff 00 00"}, {"text", letters("\xff\x00"), "ff 00 ff 00 00"}, {"text", letters("\xff"), "ff 00 00"}, {"text", letters("é"), "c3 a9 00 00"},
		{"bytes", raw(""), "00 00"}, {"bytes", raw("\x01\x00\xfe"), "01 00 ff fe 00 00"},
		{"point", dot(0, 0), "10 00 00 10 00 00"}, {"point", dot(-1<<20, 1<<20-1), "00 00 00 1f ff ff"}, {"point", dot(1<<20-1, -1<<20), "1f ff ff 00 00 00"}, {"point", dot(-1, 1), "0f ff ff 10 00 01"},
		{"point", dot(0x10203, -0x10203), "11 02 03 0e fd fd"},
		{"pair(bool,text)", both(flag(1), letters("b")), "01 62 00 00"}, {"pair(bytes,pair(bool,bool))", both(raw(""), both(flag(0), flag(1))), "00 00 00 01"},
		{"list(bool)", row(), "00"}, {"list(bool)", row(flag(1), flag(0)), "01 01 01 00 00"}, {"list(list(text))", row(row(), row(letters("")), row()), "01 00 01 01 00 00 00 01 00 00"},
		{"option(int)", none, "00"}, {"option(bool)", some(flag(0)), "01 00"}, {"option(option(bool))", none, "00"}, {"option(option(bool))", some(none), "01 00"}, {"option(option(bool))", some(some(flag(1))), "01 01 01"},
		{"option(list(bool))", some(row()), "01 00"}, {"list(option(bool))", row(none, some(flag(1)), none), "01 00 01 01 01 01 00 00"}, {"pair(option(bool),list(bool))", both(none, row()), "00 00"},
	} {
		wantCoded(t, typeOf(c.t), c.v, unhex(c.want))
	}
}

// P3.1: a zero with a sign is written as any.
func TestSignedZero(t *testing.T) {
	minus := math.Copysign(0, -1)
	if b, e := Encode(typeOf("point"), dot(minus, minus)); string(b) != unhex("10 00 00 10 00 00") || e != api.OK {
		t.Errorf("Encode: %x, %d", b, e)
	}
	v, _, _ := Decode(typeOf("point"), []byte(unhex("10 00 00 10 00 00")))
	if math.Signbit(real(v.Point)) || math.Signbit(imag(v.Point)) {
		t.Errorf("Decode: %v", v.Point)
	}
}

// P3.1, P3.3, P3.4: values of types of any depth, there and back.
func TestAnyValues(t *testing.T) {
	r := rand.New(rand.NewSource(5))
	for range 3000 {
		ty := anyType(r, api.MaxKind)
		v := anyOf(r, ty)
		wantCoded(t, ty, v, plainBytes(v))
	}
}

// P3.1: several values at once stand one behind the other; of none there are no bytes.
func TestEncodeMany(t *testing.T) {
	r := rand.New(rand.NewSource(6))
	for n := range 300 {
		ty := anyType(r, 4)
		var values []api.Value
		want := ""
		for range n % 20 {
			v := anyOf(r, ty)
			values = append(values, v)
			want += plainBytes(v)
		}
		b, e := Encode(ty, values...)
		if string(b) != want || e != api.OK {
			t.Fatalf("Encode(%s) of %d values: %x, %d; want %x", textOf(ty), len(values), b, e, want)
		}
		for i, v := range values {
			w, end, e := Next(ty, b)
			if !same(v, w) || e != api.OK {
				t.Fatalf("Next(%s) of value %d: %s, %d; want %s", textOf(ty), i, shown(w), e, shown(v))
			}
			b = b[end:]
		}
	}
}

// P3.1: the order of the bytes is that of the values.
func TestOrder(t *testing.T) {
	r := rand.New(rand.NewSource(7))
	for range 300 {
		ty := anyType(r, api.MaxKind)
		for range 30 {
			v, w := anyOf(r, ty), anyOf(r, ty)
			a, _ := Encode(ty, v)
			b, _ := Encode(ty, w)
			if want, _ := value.Compare(v, w); bytes.Compare(a, b) != want {
				t.Fatalf("%s: %s is %x, %s is %x, in another order", textOf(ty), shown(v), a, shown(w), b)
			}
		}
	}
}

// P3.1, P3.2, P3.3, P3.4: a type that isn't right is refused by every call, ahead of all else.
func TestWrongTypes(t *testing.T) {
	for i, ty := range wrongTypes() {
		for _, v := range []api.Value{{}, num(1), none, row()} {
			if b, e := Encode(ty, v); b != nil || e != api.ErrKind {
				t.Errorf("Encode of wrong type %d: %x, %d", i, b, e)
			}
		}
		if b, e := Encode(ty); b != nil || e != api.ErrKind {
			t.Errorf("Encode of wrong type %d and no values: %x, %d", i, b, e)
		}
		if n, e := Least(ty); n != 0 || e != api.ErrKind {
			t.Errorf("Least of wrong type %d: %d, %d", i, n, e)
		}
		for _, s := range []string{"", "\x00", "\x01\x00", "\x02", "\x80\x00\x00\x00\x00\x00\x00\x00"} {
			wantFault(t, ty, s, 0, api.ErrKind)
		}
	}
}

// P3.1: a value that isn't of the type is refused, wherever it stands among others.
func TestWrongValues(t *testing.T) {
	long := strings.Repeat("x", api.MaxText+1)
	for _, c := range []struct {
		t   string
		v   api.Value
		bad []api.Value
	}{
		{"bool", flag(1), []api.Value{{}, num(1), flag(2), flag(-1), {Kind: api.Bool, Text: "a"}}},
		{"int", num(1), []api.Value{flag(1), letters("1"), none, some(num(1)), row(num(1)), {Kind: api.Int, List: []api.Value{none}}}},
		{"text", letters("a"), []api.Value{raw("a"), letters(long), {Kind: api.Text, Int: 1}}},
		{"bytes", raw("a"), []api.Value{letters("a"), raw(long)}},
		{"point", dot(1, 2), []api.Value{dot(0.5, 0), dot(0, 1<<20), dot(-1<<20-1, 0), dot(math.NaN(), 0), dot(0, math.Inf(1)), num(1)}},
		{"pair(int,text)", both(num(1), letters("")), []api.Value{both(letters(""), num(1)), {Kind: api.Pair}, {Kind: api.Pair, List: []api.Value{num(1)}}, row(num(1), letters(""))}},
		{"list(int)", row(num(1)), []api.Value{row(flag(1)), row(num(1), letters("")), times(api.MaxList+1, num(1)), none, num(1)}},
		{"option(int)", some(num(1)), []api.Value{num(1), row(), some(none), some(flag(1)), {Kind: api.Some}, {Kind: api.None, Int: 1}}},
		{"list(list(int))", row(), []api.Value{sized(api.MaxSize+1, num(1)), row(num(1))}},
	} {
		ty := typeOf(c.t)
		for i, bad := range c.bad {
			for _, values := range [][]api.Value{{bad}, {bad, c.v}, {c.v, bad}, {c.v, c.v, bad, c.v}} {
				if b, e := Encode(ty, values...); b != nil || e != api.ErrValue {
					t.Errorf("Encode(%s) with wrong value %d: %x, %d; want ErrValue", c.t, i, b, e)
				}
			}
		}
	}
}

// P3.2: least sizes.
func TestLeast(t *testing.T) {
	for s, want := range map[string]int{
		"bool": 1, "int": 1, "text": 1, "bytes": 1, "point": 1, "list(pair(int,int))": 1, "option(pair(int,int))": 1, "pair(int,int)": 3,
		"pair(pair(int,int),bool)": 5, "pair(bool,pair(int,pair(int,int)))": 7, "pair(list(pair(int,int)),option(pair(int,int)))": 3,
	} {
		if n, e := Least(typeOf(s)); n != want || e != api.OK {
			t.Errorf("Least(%s): %d, %d; want %d", s, n, e, want)
		}
	}
	full := "point"
	for depth := 1; depth <= api.MaxKind; depth++ {
		if n, e := Least(typeOf(full)); n != 1<<depth-1 || e != api.OK {
			t.Errorf("Least(%s): %d, %d; want %d", full, n, e, 1<<depth-1)
		}
		full = "pair(" + full + "," + full + ")"
	}
	for _, ty := range typesWithin(2) {
		zero, _ := kind.Zero(ty)
		if n, e := Least(ty); n != sizeOf(zero) || e != api.OK {
			t.Errorf("Least(%s): %d, %d", textOf(ty), n, e)
		}
	}
}

// filled tells bytes with spare room behind them that is marked.
func filled(s string) []byte {
	b := append([]byte(s), "spare room"...)
	return b[:len(s)]
}

// P3.5: nothing that is handed in is changed, its spare room neither.
func TestUntouched(t *testing.T) {
	r := rand.New(rand.NewSource(8))
	for range 500 {
		ty := anyType(r, api.MaxKind)
		shown := textOf(ty)
		v := anyOf(r, ty)
		values := []api.Value{v, v, none, num(4711)}
		s := plainBytes(v) + "tail"
		b := filled(s)
		Encode(ty, values[:2]...)
		Decode(ty, b)
		Decode(ty, b[:len(s)-4])
		Next(ty, b)
		Least(ty)
		if string(b[:cap(b)][:len(s)+10]) != s+"spare room" {
			t.Errorf("%s: bytes are changed", shown)
		}
		if textOf(ty) != shown || plainBytes(v)+"tail" != s || !same(values[0], v) || !same(values[2], none) || !same(values[3], num(4711)) {
			t.Errorf("%s: type or values are changed", shown)
		}
	}
}

// P3.5: what is told stays what it is, when what was handed in is changed.
func TestNotKept(t *testing.T) {
	ty := typeOf("list(pair(text,bytes))")
	v := row(both(letters("abc"), raw("\x00def")), both(letters(""), raw("ghi")))
	b, _ := Encode(ty, v)
	first, _, _ := Decode(ty, b)
	second, _, _ := Next(ty, b)
	clear(b)
	if !same(first, v) || !same(second, v) {
		t.Errorf("what was told has changed to %s and %s", shown(first), shown(second))
	}
	given := []api.Value{row(num(1), num(2))}
	b, _ = Encode(typeOf("list(int)"), given...)
	was := string(b)
	given[0].List[0] = num(3)
	if string(b) != was {
		t.Errorf("what was told has changed to %x", b)
	}
}

// rooms gathers where the lists of v lie, spare room too, and tells whether any is there already.
func rooms(taken map[*api.Value]bool, v api.Value) bool {
	shared := false
	spare := v.List[:cap(v.List)]
	for i := range spare {
		shared = shared || taken[&spare[i]]
		taken[&spare[i]] = true
	}
	for _, w := range v.List {
		shared = rooms(taken, w) || shared
	}
	return shared
}

// P3.5: no two lists share memory, within one answer or in two; no text lies in the bytes, and no bytes in others.
func TestMemory(t *testing.T) {
	ty := typeOf("list(pair(list(bool),option(list(bool))))")
	v := row(both(row(flag(1)), some(row(flag(1)))), both(row(flag(1), flag(0), flag(1)), none), both(row(), some(row(flag(0)))))
	b, _ := Encode(ty, v)
	again, _ := Encode(ty, v)
	if &b[:cap(b)][cap(b)-1] == &again[:cap(again)][cap(again)-1] || &b[0] == &again[0] {
		t.Error("two answers of Encode share memory")
	}
	taken := map[*api.Value]bool{}
	for range 2 {
		first, _, _ := Decode(ty, b)
		second, _, _ := Next(ty, b)
		if rooms(taken, first) || rooms(taken, second) {
			t.Error("lists share memory")
		}
	}
	s := []byte("abc\x00\x00")
	w, _, _ := Decode(typeOf("text"), s)
	if w.Text != "abc" || unsafe.StringData(w.Text) == &s[0] {
		t.Error("a text shares memory with its bytes")
	}
}
