package expr

import (
	"math/rand"
	"slices"
	"strings"
	"testing"
)

// P4.1: the places of some faults.
func TestFaults(t *testing.T) {
	for _, c := range []struct {
		s     string
		place int
	}{
		{"", 0}, {" ", 1}, {"add(1)", 5}, {"foo(1)", 3}, {"add", 3}, {"01", 1}, {`"\41"`, 2}, {"(", 0}, {")", 0}, {",", 0}, {"_", 0}, {"A", 0}, {"+1", 0}, {"\t1", 0}, {"1\n", 1}, {"\x00", 0}, {"1\x00", 1}, {"\xff", 0}, {"é", 0}, {"it\x00", 2},
		{"-", 1}, {"-0", 1}, {"-01", 1}, {"--1", 1}, {"- 1", 1}, {"00", 1}, {"0x", 1}, {"1 2", 2}, {"1a", 1}, {"1_", 1}, {"1.5", 1}, {"1,", 1}, {"1-", 1}, {"1(", 1}, {"add(-,1)", 5}, {"add(00,1)", 5},
		{"9223372036854775808", 18}, {"9223372036854775809", 18}, {"92233720368547758070", 19}, {"-9223372036854775809", 19}, {"-92233720368547758080", 20}, {"9223372036854775810", 18}, {"9999999999999999999", 18}, {"10000000000000000000", 19}, {"-9999999999999999999", 19}, {"99999999999999999999", 18},
		{`"`, 1}, {`"a`, 2}, {`"a" "`, 4}, {`"a"b`, 3}, {`""""`, 2}, {"\"\n\"", 1}, {"\"\x1f\"", 1}, {"\"\x7f\"", 1}, {"\"\x80\"", 1}, {"\"\xff\"", 1}, {`"\`, 2}, {`"\"`, 2}, {`"\\`, 2}, {`"\n`, 2}, {`"\x`, 2}, {`"\ 0`, 2}, {`"\0 `, 3}, {`"\0`, 3}, {`"\0"`, 3}, {`"\0g`, 3}, {`"\0F`, 3}, {`"\FF`, 2}, {`"\A0`, 2}, {`"\f`, 3},
		{`"\30"`, 2}, {`"\61"`, 2}, {`"\20"`, 3}, {`"\21"`, 3}, {`"\23"`, 3}, {`"\5b"`, 3}, {`"\5d"`, 3}, {`"\7e"`, 3}, {`"\70"`, 3}, {`"\22`, 4}, {`"\5c"x`, 5}, {`"a`, 2}, {`'a'`, 0}, {`"\000"a`, 6},
		{"side", 4}, {"side(", 5}, {"side()", 5}, {"side(a)", 5}, {"side(-1)", 5}, {"side(10)", 6}, {"side(1 0)", 7}, {"side(1,2)", 6}, {"side 1", 5}, {"side(1))", 7}, {"side(it)", 5}, {"sides(1)", 5}, {"side( 1 ", 8},
		{"nil", 3}, {"nil(", 4}, {"nil()", 4}, {"nil(1)", 4}, {"nil(imt)", 5}, {"nil(int", 7}, {"nil(int,", 7}, {"nil(int))", 8}, {"nil(in t)", 6}, {"nil(list( int))", 9}, {"nil(list (int))", 8}, {"nil(list(int )", 12}, {"nil(ints)", 7}, {"nil( x", 5}, {"none(some(int))", 5}, {"none", 4}, {"none (text ) x", 13}, {"none(option(text)", 17}, {"nils(int)", 4},
		{"true(", 4}, {"true()", 4}, {"true 1", 5}, {"it(1)", 2}, {"false,", 5}, {"tru e", 4}, {"x y", 2}, {"x-", 1}, {"x.", 1}, {"xY", 1}, {"abcdefghijklmnopq", 16}, {"abcdefghijklmnop(", 16}, {"add(abcdefghijklmnopq,1)", 20},
		{"add()", 4}, {"add(,1)", 4}, {"add(1,", 6}, {"add(1,)", 6}, {"add(1,2", 7}, {"add(1,2,", 7}, {"add(1,2))", 8}, {"add(1 2)", 6}, {"add 1", 4}, {"add((1", 4}, {"add(1;2)", 5}, {"neg(1,", 5}, {"if(1,2)", 6}, {"if(1,2,3,4)", 8}, {"neg(add)", 7}, {"neg(add,", 7}, {"ad(1)", 2}, {"addx(1)", 4}, {"Neg(1)", 0}, {"n eg(1)", 2},
		{"list()", 5}, {"list(", 5}, {"list(1,)", 7}, {"list(1,2", 8}, {"list 1", 5}, {"list(,", 5}, {"list(1 , , 2)", 9}, {"list", 4}, {"list(1))", 7},
		{"let(1,2,3)", 4}, {"let(x", 5}, {"let(x)", 5}, {"let(x,1)", 7}, {"let(x,1,2,3)", 9}, {"let(it,1,2)", 6}, {"let(it ,1,2)", 6}, {"let(add,1,2)", 7}, {"let(add", 7}, {"let( list(", 9}, {`let("x",1,2)`, 4}, {"let(-", 4}, {"let()", 4}, {"let(,", 4}, {"let(x y", 6}, {"let(x(", 5}, {"let(_x", 4}, {"let(abcdefghijklmnopq", 20}, {"let", 3},
		{"map(1,2,3)", 6}, {"map(1,x)", 7}, {"map(1,it,", 8}, {"map(1,true ", 10}, {"map(1)", 5}, {"filter(x,y,z,", 12}, {"filter(1,filter,2)", 15}, {"fold(1,2,3", 9}, {"fold(1,2,x,3", 11}, {"fold(1,2,x,y)", 12}, {"fold(1,2,x,y,3,", 14}, {"fold(1,2,fold,", 13}, {"fold(1,2,x,let ", 14}, {"fold(1,2,x,y,let ", 17},
	} {
		wantFault(t, c.s, c.place)
		wantPlain(t, c.s, 0)
	}
}

// P4.1: the limits of numbers, names, strings and lists, at them and one past.
func TestLimits(t *testing.T) {
	name := "a234567890123456"
	wantTerm(t, name, called(name))
	wantTerm(t, "let("+name+",1,"+name+")", op("let", called(name), num(1), called(name)))
	wantFault(t, name+"7", 16)
	wantFault(t, "let("+name+"7", 20)
	wantTerm(t, "9223372036854775807", num(1<<63-1))
	wantTerm(t, "-9223372036854775808", num(-1<<63))
	wantTerm(t, "1000000000000000000", num(1000000000000000000))
	for _, letter := range []struct{ text, written string }{{"x", "x"}, {"\xff", `\ff`}, {`"`, `\22`}} {
		s := strings.Repeat(letter.written, 256)
		wantTerm(t, `"`+s+`"`, str(strings.Repeat(letter.text, 256)))
		for _, more := range []string{"x", `\`, `\22`, ``, "x\"", "\xff"} {
			wantFault(t, `"`+s+more, 1+len(s))
		}
	}
	ones := strings.Repeat("1,", 63)
	wantTerm(t, "list("+ones+"1)", many(64, num(1)))
	wantTerm(t, "list("+ones+"1 )", many(64, num(1)))
	wantFault(t, "list("+ones+"1,1)", 5+127)
	wantFault(t, "list("+ones+"1 ,", 5+128)
	wantFault(t, "list("+ones+"1", 5+127)
	wantFault(t, "list("+ones+")", 5+126)
}

// P4.1: in strings each byte is written in one way alone.
func TestEachByte(t *testing.T) {
	const digits = "0123456789abcdef"
	for b := range 256 {
		itself, coded := string([]byte{byte(b)}), `\`+digits[b>>4:b>>4+1]+digits[b&15:b&15+1]
		plain := b >= 32 && b <= 126 && b != '"' && b != '\\'
		if plain {
			wantTerm(t, `"a`+itself+`b"`, str("a"+itself+"b"))
			place := 4
			if b>>4 == 3 || b>>4 == 4 || b>>4 == 6 {
				place = 3
			}
			wantFault(t, `"a`+coded+`b"`, place)
		} else {
			wantTerm(t, `"a`+coded+`b"`, str("a"+itself+"b"))
			wantPlain(t, `"a`+itself+`b"`, 0)
		}
		wantPlain(t, `"\`+itself+`0"`, 0)
		wantPlain(t, `"\0`+itself+`"`, 0)
		wantPlain(t, `"\2`+itself+`"`, 0)
		wantPlain(t, `"\5`+itself+`"`, 0)
		wantPlain(t, `"\7`+itself+`"`, 0)
	}
}

// P4.1: every word, cut short at each byte and followed by more, here and where Kids have no room.
func TestWords(t *testing.T) {
	for _, w := range words {
		for n := 1; n <= len(w); n++ {
			for _, more := range []string{"", " ", "(", "x", "_", "9", "x(", " (", ")", ",", "1)", "(1", "(it,", "-", "A", "\x00", "(x,1,2)", "( x , 1 , 2 )", "(1,x,2)", "(1,2,x,y,3)", "(1)", "(1,2)", "(int)", "(1,2,3)"} {
				for _, brackets := range []int{0, 1, 22, 23} {
					wantPlain(t, w[:n]+more, brackets)
				}
				wantPlain(t, "let("+w[:n]+more, 0)
				wantPlain(t, "map(1,"+w[:n]+more, 22)
				wantPlain(t, "fold(1,2,x,"+w[:n]+more, 1)
			}
		}
		// Behind a word of the greatest length that a name may have, no byte makes it one.
		wantPlain(t, w+strings.Repeat("x", 16-len(w)), 23)
		wantPlain(t, w+strings.Repeat("x", 17-len(w)), 23)
	}
}

// P4.1: at the greatest depth words with Kids are faulty where they don't become names.
func TestFaultAtGreatestDepth(t *testing.T) {
	open := strings.Repeat("neg(", 23)
	n := len(open)
	for _, w := range slices.Concat(ones, twos, threes, []string{"list", "let", "map", "filter", "fold"}) {
		wantFault(t, open+w, n+len(w))
		wantFault(t, open+w+"(", n+len(w))
		wantFault(t, open+w+" ", n+len(w))
		wantFault(t, open+w+")", n+len(w))
		wantTerm(t, open+w+"_"+strings.Repeat(")", 23), nested(called(w+"_"), 23))
	}
	wantFault(t, open+"neg(neg(1", n+3)
	wantFault(t, strings.Repeat("neg(", 1000), n+3)
	wantFault(t, strings.Repeat("add(1,", 600), 23*6+3)
	wantFault(t, open, n)
	wantFault(t, open+"side(", n+5)
	wantFault(t, open+"nil(int", n+7)
	wantFault(t, open+"true(", n+4)
	wantFault(t, open[4:]+"let(it", n-4+6)
	wantTerm(t, open[4:]+"let ( x , 1 , side ( 3 ) )"+strings.Repeat(")", 22), nested(op("let", called("x"), num(1), side(3)), 22))
}

// P4.1: types at their greatest depth, within nil and none.
func TestTypes(t *testing.T) {
	for _, w := range []string{"nil", "none"} {
		for _, brackets := range []int{0, 23} {
			for _, s := range []string{
				w + "(" + deepest + ")", w + " ( " + deepest + " ) ", w + "(list(" + deepest, w + "(list(list(list(list(list(list(", w + "(list(list(list(list(list(pair(", w + "(list(list(list(list(list(poi", w + "(list(list(list(list(list(int)",
				w + "(option(list(list(list(list(opt", w + "(pair(int,list(list(list(list(list(int", w + "(pair(int,text) )", w + "(pair(int, text))", w + "(list(int) x", w + "(list(int)))", w + "(int)", w + "(int) )", w + "(intint)", w + "(int,int)", w + "(bool", w + "(boo", w + "(b",
			} {
				wantPlain(t, s, brackets)
				wantPlain(t, s+strings.Repeat(")", brackets), brackets)
			}
		}
	}
}

// tryAll holds Parse against the grammar at s, the beginning of a text, with each byte behind it. It goes
// on with some of them, so many bytes deep.
func tryAll(t *testing.T, s string, brackets, deep int) {
	for b := range 256 {
		wantPlain(t, s+string([]byte{byte(b)}), brackets)
	}
	if deep == 1 {
		return
	}
	for _, b := range `it0-"\2,() ` {
		more := s + string(b)
		if _, beginning := look(more, 24-brackets, brackets); beginning {
			tryAll(t, more, brackets, deep-1)
		}
	}
}

// P4.1: every byte that nothing goes on with, as far as all can be counted.
func TestAllFaults(t *testing.T) {
	tryAll(t, "", 0, 4)
	tryAll(t, "", 23, 3)
	for _, s := range []string{
		"-", "0", "12", "922337203685477580", "-922337203685477580", "true", "tru", "it", "add", "addx", "abcdefghijklmno", "add(", "add(1", "add(1,", "add(1,2", "neg(1", "if(1,2", "list(", "list(1", "side", "side(", "side(4",
		"nil(", "nil(l", "nil(list", "nil(list(", "none(list(int", "none(list(int)", "let", "let(", "let(x", "let(it", "let(x,", "let(x,1,y", "map(x,", "map(x,y", "map(x,ad", "map(x,add", "filter(1,x,", "fold(1,2", "fold(1,2,", "fold(1,2,x,", "fold(1,2,x,y", `"`, `"a`, `"\`, `"\2`, `"\7`, `"\f`, `"a"`, `add("a"`,
	} {
		tryAll(t, s, 0, 2)
		tryAll(t, s, 22, 1)
		tryAll(t, s, 23, 1)
	}
}

// P4.1: any texts, cut short at each byte, and with another byte there, put in, or left out.
func TestCutShort(t *testing.T) {
	r := rand.New(rand.NewSource(4))
	const bytes = "01279-\"\\ (),_abcefilnostx\x00\x7f\xff\n"
	for range 60 {
		gap := func() string { return strings.Repeat(" ", max(0, r.Intn(6)-4)) }
		s := gap() + plainText(anyTerm(r, 3), gap) + gap()
		if len(s) > 80 {
			continue
		}
		wantPlain(t, s, 0)
		for n := range len(s) {
			wantPlain(t, s[:n], 0)
			wantPlain(t, s[:n]+s[n+1:], 0)
			b := string(bytes[r.Intn(len(bytes))])
			wantPlain(t, s[:n]+b+s[n+1:], 0)
			wantPlain(t, s[:n]+b+s[n:], 0)
			wantPlain(t, s[:n]+b+s[n:], 22)
		}
	}
}
