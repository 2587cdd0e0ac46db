package coder

import (
	"math/rand"
	"strings"
	"testing"

	"watershed/api"
	"watershed/kind"
)

// P3.3, P3.4: the places of some faults.
func TestFaults(t *testing.T) {
	for _, c := range []struct {
		t, s  string
		place int
	}{
		{"bool", "02", 0}, {"bool", "ff", 0}, {"list(bool)", "02", 0}, {"list(bool)", "01 02", 1}, {"list(bool)", "01 01 02", 2}, {"list(bool)", "01 01 ff 00", 2}, {"option(bool)", "02", 0}, {"option(bool)", "01 02", 1},
		{"option(option(bool))", "01 02", 1}, {"text", "00 01", 1}, {"text", "00 fe", 1}, {"text", "61 00 61", 2}, {"text", "00 ff 00 01", 3}, {"text", "00 ff 00 fe 00 00", 3}, {"bytes", "00 7f", 1},
		{"point", "20", 0}, {"point", "20 00 00 00 00 00", 0}, {"point", "ff", 0}, {"point", "1f ff ff 20", 3}, {"point", "10 00 00 80 00 00", 3},
		{"pair(bool,bool)", "02 02", 0}, {"pair(bool,bool)", "01 02", 1}, {"pair(text,bool)", "00 00 02", 2}, {"pair(text,bool)", "00 61", 1}, {"pair(int,point)", "ff ff ff ff ff ff ff ff ff", 8}, {"pair(list(bool),bool)", "01 01 00 02", 3},
	} {
		wantFault(t, typeOf(c.t), unhex(c.s), c.place, api.ErrCode)
	}
}

// P3.3, P3.4: nothing and beginnings are short, at their end; ErrCode and ErrShort are told apart by the last byte.
func TestShort(t *testing.T) {
	for _, ty := range typesWithin(2) {
		wantFault(t, ty, "", 0, api.ErrShort)
	}
	for _, c := range []struct{ t, s string }{
		{"list(bool)", "01"}, {"list(bool)", "01 01"}, {"option(bool)", "01"}, {"text", "00"}, {"text", "61"}, {"text", "61 00"}, {"text", "00 ff"}, {"text", "00 ff 00"}, {"int", "ff ff ff ff ff ff ff"},
		{"point", "1f"}, {"point", "1f ff ff 1f ff"}, {"pair(bool,bool)", "01"}, {"pair(text,bool)", "00 00"}, {"list(list(bool))", "01 00"},
	} {
		wantFault(t, typeOf(c.t), unhex(c.s), len(unhex(c.s)), api.ErrShort)
	}
}

// P3.3, P3.4: bytes cut short at each place, and each with another byte there.
func TestCutShort(t *testing.T) {
	r := rand.New(rand.NewSource(9))
	for range 400 {
		ty := anyType(r, api.MaxKind)
		s := plainBytes(anyOf(r, ty))
		if len(s) > 50 {
			continue
		}
		for n := range len(s) {
			wantFault(t, ty, s[:n], n, api.ErrShort)
			for _, b := range []string{"\x00", "\x01", "\x02", "\x1f", "\x20", "\xfe", "\xff"} {
				wantPlain(t, ty, s[:n]+b, n)
				wantPlain(t, ty, s[:n]+b+s[n+1:], n)
			}
		}
	}
}

// tryAll holds Decode and Next against the chapter's words at s, the beginning of a value's bytes but none
// itself, with each byte behind it. It goes on with some of them, so many bytes deep.
func tryAll(t *testing.T, ty kind.Type, s string, deep int) {
	for b := range 256 {
		more := s + string([]byte{byte(b)})
		wantPlain(t, ty, more, len(s))
		wantPlain(t, ty, more+"\x00\x01", len(s))
		_, _, e := plainDecode(ty, more, len(s))
		if e == api.ErrShort && deep > 1 && strings.IndexByte("\x00\x01\x1f\xff", byte(b)) >= 0 {
			tryAll(t, ty, more, deep-1)
		}
	}
}

// P3.3, P3.4: every byte that nothing goes on with, as far as all can be counted.
func TestAllFaults(t *testing.T) {
	for _, ty := range typesWithin(2) {
		tryAll(t, ty, "", 3)
	}
	for _, s := range []string{"list(list(bool))", "list(option(bool))", "option(list(bool))", "list(pair(bool,bool))", "option(option(option(bool)))", "pair(list(bool),option(bool))", "list(list(list(bool)))"} {
		tryAll(t, typeOf(s), "", 6)
	}
	tryAll(t, typeOf("point"), unhex("1f ff ff"), 3)
	tryAll(t, typeOf("text"), "", 5)
}

// P3.3, P3.4: bytes of all sorts.
func TestAnyBytes(t *testing.T) {
	r := rand.New(rand.NewSource(10))
	for range 20000 {
		b := make([]byte, r.Intn(12))
		for i := range b {
			b[i] = "\x00\x00\x00\x01\x01\x01\x02\x1f\x20\x61\xfe\xff"[r.Intn(12)]
		}
		wantPlain(t, anyType(r, 4), string(b), 0)
	}
}

// P3.1, P3.3, P3.4: MaxText, at it and one past it, also where bytes 00 stand at the end.
func TestMaxText(t *testing.T) {
	for _, s := range []string{"text", "bytes"} {
		ty := typeOf(s)
		for zeros := range 4 {
			v := api.Value{Kind: ty.Kind, Text: strings.Repeat("a", api.MaxText-zeros) + strings.Repeat("\x00", zeros)}
			whole := plainBytes(v)
			wantCoded(t, ty, v, whole)
			n := len(whole) - 2
			wantFault(t, ty, whole[:n], n, api.ErrShort)
			wantFault(t, ty, whole[:n+1], n+1, api.ErrShort)
			for _, b := range []string{"\x01", "a", "\xfe", "\xff"} {
				wantFault(t, ty, whole[:n]+b, n, api.ErrCode)
				wantFault(t, ty, whole[:n]+b+"\x00\x00", n, api.ErrCode)
				wantFault(t, ty, whole[:n+1]+b, n+1, api.ErrCode)
				wantFault(t, ty, whole[:n+1]+b+"\x00\x00", n+1, api.ErrCode)
			}
		}
		almost := strings.Repeat("a", api.MaxText-1)
		wantCoded(t, ty, api.Value{Kind: ty.Kind, Text: almost}, almost+"\x00\x00")
		wantFault(t, ty, almost+"\x00\xff", api.MaxText+1, api.ErrShort)
		wantFault(t, ty, strings.Repeat("\x00\xff", api.MaxText)+"\x00\xff", 2*api.MaxText+1, api.ErrCode)
	}
}

// P3.1, P3.3, P3.4: a text's room begins anew with each text.
func TestManyLongTexts(t *testing.T) {
	long := letters(strings.Repeat("\x00", api.MaxText))
	v := times(api.MaxList, both(long, long))
	wantCoded(t, typeOf("list(pair(text,text))"), v, plainBytes(v))
}

// P3.1, P3.3, P3.4: MaxList, at it and one past it, alone and as part of others.
func TestMaxList(t *testing.T) {
	for _, c := range []struct {
		t string
		v api.Value
	}{
		{"list(bool)", flag(1)}, {"list(int)", num(-1)}, {"list(option(bool))", none}, {"list(option(bool))", some(flag(1))}, {"list(list(bool))", row()}, {"list(pair(text,bool))", both(letters("\x00"), flag(0))},
	} {
		ty := typeOf(c.t)
		v := times(api.MaxList, c.v)
		whole := plainBytes(v)
		wantCoded(t, ty, v, whole)
		n := len(whole) - 1
		wantFault(t, ty, whole[:n], n, api.ErrShort)
		for _, more := range []string{"\x01", "\x01" + plainBytes(c.v) + "\x00", "\x02"} {
			wantFault(t, ty, whole[:n]+more, n, api.ErrCode)
			wantFault(t, kind.Type{Kind: api.List, Args: []kind.Type{ty}}, "\x01"+whole[:n]+more, n+1, api.ErrCode)
			wantFault(t, kind.Type{Kind: api.Pair, Args: []kind.Type{ty, ty}}, whole+whole[:n]+more, 2*n+1, api.ErrCode)
		}
	}
}

// P3.3, P3.4: MaxSize, at it and one past it: the byte that begins one value too many is a fault, whether
// or not bytes come behind it; what must still come counts.
func TestMaxSize(t *testing.T) {
	for _, c := range []struct {
		t    string
		v    api.Value // of the greatest size
		cut  int       // so many bytes at its end are left out
		more string    // what would go on there, but is too much at its first byte
	}{
		{"list(list(bool))", sized(2000, flag(1)), 1, "01"},
		{"list(list(bool))", sized(2000, flag(1)), 2, "01 01"},
		{"list(list(bool))", sized(1999, flag(1)), 1, ""},
		{"list(list(pair(bool,bool)))", sized(1998, both(flag(0), flag(0))), 2, "01 00 00"},
		{"list(list(pair(bool,bool)))", sized(1998, both(flag(0), flag(0))), 1, ""},
		{"list(list(list(bool)))", row(sized(1999, flag(1))), 2, "01"},
		{"list(list(option(bool)))", sized(2000, none), 3, "01 00"},
		{"list(list(option(bool)))", sized(1999, none), 3, ""},
		{"list(list(option(bool)))", sized(1999, none), 2, ""},
		{"list(list(option(pair(bool,bool))))", sized(1997, none), 3, ""},
		{"list(list(option(pair(bool,bool))))", sized(1998, none), 3, "01 00 00"},
		{"pair(list(list(bool)),pair(bool,bool))", both(sized(1996, flag(0)), both(flag(0), flag(0))), 4, "01 00"},
		{"pair(list(list(bool)),pair(bool,bool))", both(sized(1996, flag(0)), both(flag(0), flag(0))), 3, "01 00"},
		{"pair(list(list(bool)),pair(bool,bool))", both(sized(1995, flag(0)), both(flag(0), flag(0))), 4, ""},
		{"pair(pair(bool,bool),list(list(bool)))", both(both(flag(0), flag(0)), sized(1996, flag(0))), 2, "01"},
		{"pair(list(list(bool)),option(pair(bool,bool)))", both(sized(1995, flag(0)), none), 1, ""},
		{"pair(list(list(bool)),option(pair(bool,bool)))", both(sized(1996, flag(0)), none), 1, "01"},
		{"pair(list(list(bool)),option(bool))", both(sized(1998, flag(0)), none), 1, "01 00"},
		{"pair(list(list(bool)),list(pair(bool,pair(bool,bool))))", both(sized(1994, flag(0)), row()), 1, "01 00"},
		{"pair(list(list(bool)),list(pair(bool,pair(bool,bool))))", both(sized(1993, flag(0)), row()), 1, ""},
		{"option(list(list(bool)))", some(sized(1999, flag(0))), 2, "01"},
		{"option(list(list(bool)))", some(sized(1998, flag(0))), 2, ""},
	} {
		ty := typeOf(c.t)
		whole := plainBytes(c.v)
		wantCoded(t, ty, c.v, whole)
		n := len(whole) - c.cut
		if c.more == "" {
			wantFault(t, ty, whole[:n]+"\x01", n+1, api.ErrShort)
			continue
		}
		for i := range unhex(c.more) {
			wantFault(t, ty, whole[:n]+unhex(c.more)[:i+1], n, api.ErrCode)
		}
		wantFault(t, ty, whole[:n]+"\x02", n, api.ErrCode)
		wantFault(t, ty, whole[:n], n, api.ErrShort)
	}
}

// P3.3, P3.4: at MaxSize and a bit below, all ways on are held against the chapter's words.
func TestAboutMaxSize(t *testing.T) {
	for _, s := range []string{"list(list(bool))", "list(list(option(bool)))", "list(list(pair(bool,option(bool))))", "list(list(list(bool)))"} {
		ty := typeOf(s)
		inner, _ := kind.Zero(ty.Args[0].Args[0])
		for size := api.MaxSize - 3; size <= api.MaxSize; size++ {
			whole := plainBytes(sized(size, inner))
			open := len(whole) - 2
			for n := range 1 << 5 {
				tail := make([]byte, 5)
				for i := range tail {
					tail[i] = byte(n >> i & 1)
				}
				wantPlain(t, ty, whole[:open]+string(tail), open)
			}
		}
	}
}

// P3.1, P3.3, P3.4: the deepest values that a type has. No type is as deep as MaxDepth: deeper values are of none.
func TestDeepest(t *testing.T) {
	for _, c := range []struct {
		open, ahead, behind string
		wrap                func(api.Value) api.Value
	}{
		{"list(", "\x01", "\x00", func(v api.Value) api.Value { return row(v) }},
		{"option(", "\x01", "", some},
	} {
		deep := typeOf(strings.Repeat(c.open, api.MaxKind-1) + "bool" + strings.Repeat(")", api.MaxKind-1))
		v, s := flag(1), "\x01"
		for range api.MaxKind - 1 {
			v, s = c.wrap(v), c.ahead+s+c.behind
		}
		wantCoded(t, deep, v, s)
		for range api.MaxDepth - api.MaxKind + 1 {
			v = c.wrap(v)
			if b, e := Encode(deep, v); b != nil || e != api.ErrValue {
				t.Errorf("Encode(%s) of a deeper value: %x, %d", textOf(deep), b, e)
			}
			if b, e := Encode(kind.Type{Kind: api.List, Args: []kind.Type{deep}}, v); b != nil || e != api.ErrKind {
				t.Errorf("Encode of a deeper type: %x, %d", b, e)
			}
		}
	}
	full := "bool"
	for range api.MaxKind - 1 {
		full = "pair(" + full + "," + full + ")"
	}
	zero, _ := kind.Zero(typeOf(full))
	wantCoded(t, typeOf(full), zero, strings.Repeat("\x00", 32))
	wantFault(t, typeOf(full), strings.Repeat("\x00", 31), 31, api.ErrShort)
}

// P1: many bytes are read no farther than to their fault or their value's end.
func TestMany(t *testing.T) {
	many := 1 << 24
	wantFault(t, typeOf("list(list(list(bool)))"), strings.Repeat("\x01", many), 2+2*api.MaxList, api.ErrCode)
	wantFault(t, typeOf("text"), strings.Repeat("a", many), api.MaxText, api.ErrCode)
	wantFault(t, typeOf("text"), strings.Repeat("\x00\xff", many), 2*api.MaxText+1, api.ErrCode)
	v, end, e := Next(typeOf("int"), make([]byte, many))
	wantRead(t, "Next", typeOf("int"), "00..", v, end, e, num(-1<<63), 8, api.OK)
	v, end, e = Decode(typeOf("int"), make([]byte, many))
	wantRead(t, "Decode", typeOf("int"), "00..", v, end, e, api.Value{}, 8, api.ErrCode)
}
