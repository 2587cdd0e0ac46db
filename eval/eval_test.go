package eval

import (
	"slices"
	"strings"
	"testing"

	"watershed/api"
	"watershed/kind"
)

// words has one or more for each word, with what comes of it by the usual values, and the fuel.
var words = []struct {
	s, answer string
	fuel      int
}{
	{"0", "0", 1}, {"-9223372036854775808", "-9223372036854775808", 1}, {`""`, `""`, 1}, {`"a\00\ff"`, `"a\x00\xff"`, 1}, {"true", "true", 1}, {"false", "false", 1}, {"it", "7", 1},
	{"side(0)", `"abc"`, 1}, {"side(1)", "<3 -4>", 1}, {"side(2)", `'\x00\xff\x00'`, 1}, {"side(3)", `(5 "b")`, 1}, {"side(4)", "[<1 2> <-1 0> <1 -2>]", 1}, {"side(5)", "![4 5]", 1}, {"side(6)", "true", 1}, {"side(8)", "none", 1}, {"nil(int)", "[]", 1}, {"nil(pair(int,text))", "[]", 1}, {"none(int)", "none", 1}, {"none(option(bool))", "none", 1},

	{"add(it,1)", "8", 3}, {"add(-5,-6)", "-11", 3}, {"sub(it,10)", "-3", 3}, {"sub(-1,it)", "-8", 3}, {"mul(it,-3)", "-21", 3}, {"mul(0,it)", "0", 3}, {"neg(it)", "-7", 2}, {"neg(0)", "0", 2}, {"neg(-5)", "5", 2},
	{"add(side(1),point(1,1))", "<4 -3>", 5}, {"sub(side(1),point(1,1))", "<2 -5>", 5}, {"mul(side(1),point(1,1))", "<7 -1>", 5}, {"mul(point(0,1),point(0,1))", "<-1 0>", 7}, {"neg(side(1))", "<-3 4>", 2}, {"neg(point(0,0))", "<0 0>", 4},
	{"div(it,2)", "3", 3}, {"div(-7,2)", "-3", 3}, {"div(it,-2)", "-3", 3}, {"div(-7,-2)", "3", 3}, {"div(1,it)", "0", 3}, {"div(it,0)", "0", 3}, {"div(0,0)", "0", 3}, {"mod(it,2)", "1", 3}, {"mod(-7,2)", "-1", 3}, {"mod(it,-2)", "1", 3}, {"mod(-7,-2)", "-1", 3}, {"mod(1,it)", "1", 3}, {"mod(it,0)", "0", 3}, {"mod(0,0)", "0", 3}, {"mod(-6,3)", "0", 3},

	{"eq(it,7)", "true", 3}, {"eq(it,8)", "false", 3}, {"lt(it,8)", "true", 3}, {"lt(it,7)", "false", 3}, {"lt(it,6)", "false", 3}, {"lt(-1,0)", "true", 3}, {"eq(true,true)", "true", 3}, {"lt(false,true)", "true", 3}, {"lt(true,false)", "false", 3},
	{`eq(side(0),"abc")`, "true", 3}, {`eq(side(0),"ab")`, "false", 3}, {`lt("ab",side(0))`, "true", 3}, {`lt(side(0),"ab")`, "false", 3}, {`lt("\ff","a")`, "false", 3}, {`lt("","\00")`, "true", 3}, {`eq(side(2),bytes("\00\ff\00"))`, "true", 4}, {`lt(side(2),bytes("\01"))`, "true", 4},
	{"eq(side(1),point(3,-4))", "true", 5}, {"eq(side(1),conj(side(1)))", "false", 4}, {"lt(side(1),point(3,-3))", "true", 5}, {"lt(side(1),point(2,9))", "false", 5}, {"lt(point(-1,5),point(0,-5))", "true", 7},
	{`eq(side(3),pair(5,"b"))`, "true", 5}, {`lt(side(3),pair(5,"ba"))`, "true", 5}, {`lt(side(3),pair(4,"z"))`, "false", 5}, {"eq(side(7),list(3,1,2,1))", "true", 7}, {"lt(nil(int),side(7))", "true", 3}, {"lt(list(3,1,2),side(7))", "true", 6}, {"lt(list(4),side(7))", "false", 4}, {"eq(nil(int),nil(int))", "true", 3}, {"eq(side(8),none(int))", "true", 3}, {"lt(side(8),some(it))", "true", 4}, {"lt(some(it),side(8))", "false", 4}, {"lt(some(-1),some(it))", "true", 5}, {"eq(some(it),some(7))", "true", 5},
	{"and(true,true)", "true", 3}, {"and(true,false)", "false", 3}, {"and(false,true)", "false", 3}, {"and(false,false)", "false", 3}, {"or(true,true)", "true", 3}, {"or(true,false)", "true", 3}, {"or(false,true)", "true", 3}, {"or(false,false)", "false", 3}, {"not(true)", "false", 2}, {"not(false)", "true", 2}, {"and(side(6),not(side(6)))", "false", 4},
	{"if(true,1,2)", "1", 3}, {"if(false,1,2)", "2", 3}, {"if(side(6),side(0),join(side(0),side(0)))", `"abc"`, 3}, {"if(not(side(6)),side(0),join(side(0),side(0)))", `"abcabc"`, 6}, {"if(true,if(false,1,2),3)", "2", 5}, {"add(if(true,1,2),if(false,1,2))", "3", 7},

	{"pair(it,side(0))", `(7 "abc")`, 3}, {"pair(side(3),side(3))", `((5 "b") (5 "b"))`, 3}, {"first(side(3))", "5", 2}, {"second(side(3))", `"b"`, 2}, {"first(pair(side(4),it))", "[<1 2> <-1 0> <1 -2>]", 4}, {"second(pair(it,side(5)))", "![4 5]", 4},
	{"list(it)", "[7]", 2}, {"list(it,1,it)", "[7 1 7]", 4}, {"list(side(3),side(3))", `[(5 "b") (5 "b")]`, 3}, {"list(side(7),nil(int))", "[[3 1 2 1] []]", 3}, {"cons(it,side(7))", "[7 3 1 2 1]", 3}, {"cons(it,nil(int))", "[7]", 3}, {"cons(side(1),side(4))", "[<3 -4> <1 2> <-1 0> <1 -2>]", 3}, {"cons(side(7),side(9))", "[[3 1 2 1] [1 2] [] [1]]", 3},
	{"concat(side(7),list(8,9))", "[3 1 2 1 8 9]", 5}, {"concat(list(8,9),side(7))", "[8 9 3 1 2 1]", 5}, {"concat(nil(int),side(7))", "[3 1 2 1]", 3}, {"concat(side(7),nil(int))", "[3 1 2 1]", 3}, {"concat(nil(int),nil(int))", "[]", 3}, {"concat(side(9),side(9))", "[[1 2] [] [1] [1 2] [] [1]]", 3}, {"len(side(7))", "4", 2}, {"len(nil(text))", "0", 2}, {"len(side(9))", "3", 2},
	{"at(side(7),0)", "!3", 3}, {"at(side(7),2)", "!2", 3}, {"at(side(7),3)", "!1", 3}, {"at(side(7),4)", "none", 3}, {"at(side(7),-1)", "none", 3}, {"at(list(it),1)", "none", 4}, {"at(nil(int),0)", "none", 3}, {"at(side(9),1)", "![]", 3}, {"at(side(4),1)", "!<-1 0>", 3}, {"at(list(side(5)),0)", "!![4 5]", 4}, {"at(list(side(8)),0)", "!none", 4},
	{"sort(side(7))", "[1 1 2 3]", 2}, {"sort(side(4))", "[<-1 0> <1 -2> <1 2>]", 2}, {"sort(side(9))", "[[] [1] [1 2]]", 2}, {"sort(nil(int))", "[]", 2}, {`sort(list("b","a\00","","a"))`, `["" "a" "a\x00" "b"]`, 6}, {`sort(list(bytes("b"),side(2)))`, `['\x00\xff\x00' 'b']`, 5}, {"sort(list(some(2),none(int),some(1),side(8)))", "[none none !1 !2]", 8}, {"sort(list(true,false,true))", "[false true true]", 5}, {`sort(list(side(3),pair(5,"a"),side(3)))`, `[(5 "a") (5 "b") (5 "b")]`, 7}, {"sort(list(2,2,2))", "[2 2 2]", 5}, {"sort(list(-1,-9223372036854775808,9223372036854775807,0))", "[-9223372036854775808 -1 0 9223372036854775807]", 6},
	{"range(3)", "[0 1 2]", 2}, {"range(1)", "[0]", 2}, {"range(0)", "[]", 2}, {"range(-1)", "[]", 2}, {"range(it)", "[0 1 2 3 4 5 6]", 2}, {"range(-9223372036854775808)", "[]", 2},
	{"some(it)", "!7", 2}, {"some(side(8))", "!none", 2}, {"some(side(5))", "!![4 5]", 2}, {"is_some(side(5))", "true", 2}, {"is_some(side(8))", "false", 2}, {"is_some(some(none(int)))", "true", 3}, {"is_some(none(option(int)))", "false", 2}, {"or_else(side(5),nil(int))", "[4 5]", 3}, {"or_else(side(8),it)", "7", 3}, {"or_else(some(1),it)", "1", 4}, {"or_else(some(side(8)),some(it))", "none", 5}, {"or_else(none(text),side(0))", `"abc"`, 3},

	{`join(side(0),"d")`, `"abcd"`, 3}, {`join("",side(0))`, `"abc"`, 3}, {`join(side(0),"")`, `"abc"`, 3}, {`join("\ff","\00")`, `"\xff\x00"`, 3}, {"size(side(0))", "3", 2}, {"size(side(2))", "3", 2}, {`size("")`, "0", 2}, {`size("\c3\a4")`, "2", 2}, {`size(bytes(""))`, "0", 3},
	{"cut(side(0),1,2)", `"b"`, 4}, {"cut(side(0),0,3)", `"abc"`, 4}, {"cut(side(0),1,3)", `"bc"`, 4}, {"cut(side(0),0,2)", `"ab"`, 4}, {"cut(side(0),-1,2)", `"ab"`, 4}, {"cut(side(0),-9223372036854775808,9223372036854775807)", `"abc"`, 4}, {"cut(side(0),1,9)", `"bc"`, 4}, {"cut(side(0),2,2)", `""`, 4}, {"cut(side(0),2,1)", `""`, 4}, {"cut(side(0),0,0)", `""`, 4}, {"cut(side(0),0,-1)", `""`, 4}, {"cut(side(0),-2,-1)", `""`, 4}, {"cut(side(0),3,9)", `""`, 4}, {"cut(side(0),9,12)", `""`, 4}, {"cut(side(0),9,1)", `""`, 4}, {"cut(side(0),9223372036854775807,-9223372036854775808)", `""`, 4}, {`cut("",0,1)`, `""`, 4}, {"cut(side(2),1,2)", `'\xff'`, 4}, {"cut(side(2),-1,9)", `'\x00\xff\x00'`, 4}, {"cut(side(2),2,1)", "''", 4},
	{"bytes(side(0))", "'abc'", 2}, {`bytes("\ff")`, `'\xff'`, 2}, {`bytes("")`, "''", 2}, {"text(side(2))", `"\x00\xff\x00"`, 2}, {`text(bytes("a"))`, `"a"`, 3}, {"show(it)", `"7"`, 2}, {"show(0)", `"0"`, 2}, {"show(-10)", `"-10"`, 2}, {"show(9223372036854775807)", `"9223372036854775807"`, 2}, {"show(-9223372036854775808)", `"-9223372036854775808"`, 2},
	{"point(it,-1)", "<7 -1>", 3}, {"point(0,0)", "<0 0>", 3}, {"re(side(1))", "3", 2}, {"im(side(1))", "-4", 2}, {"conj(side(1))", "<3 4>", 2}, {"conj(point(1,0))", "<1 0>", 4},

	{"let(x,it,x)", "7", 3}, {"let(x,add(it,1),mul(x,x))", "64", 7}, {"let(x,side(4),it)", "7", 3}, {"let(x,1,let(y,2,list(x,y,x)))", "[1 2 1]", 8}, {"add(let(x,1,x),let(x,2,x))", "3", 7},
	{"map(side(7),x,mul(x,x))", "[9 1 4 1]", 14}, {"map(nil(int),x,add(x,1))", "[]", 2}, {"map(side(4),x,re(x))", "[1 -1 1]", 8}, {"map(side(9),x,len(x))", "[2 0 1]", 8}, {"map(side(7),x,it)", "[7 7 7 7]", 6}, {"map(range(3),x,pair(x,it))", "[(0 7) (1 7) (2 7)]", 12},
	{"filter(side(7),x,lt(x,3))", "[1 2 1]", 14}, {"filter(side(7),x,true)", "[3 1 2 1]", 6}, {"filter(side(7),x,false)", "[]", 6}, {"filter(nil(bool),x,x)", "[]", 2}, {"filter(list(true,false,true),x,x)", "[true true]", 8}, {"filter(side(9),x,lt(nil(int),x))", "[[1 2] [1]]", 11}, {"filter(side(4),x,eq(re(x),1))", "[<1 2> <1 -2>]", 14},
	{"fold(range(it),0,a,x,add(a,x))", "21", 25}, {"fold(side(7),nil(int),a,x,cons(x,a))", "[1 2 1 3]", 15}, {"fold(nil(int),it,a,x,0)", "7", 3}, {`fold(side(7),"",a,x,join(a,show(x)))`, `"3121"`, 19}, {"fold(side(7),it,a,x,x)", "1", 7}, {"fold(side(7),it,a,x,a)", "7", 7}, {"fold(side(4),point(1,0),a,x,mul(a,x))", "<-5 0>", 14},
}

// P6.2: each word, with its fuel; the chapter's own examples are among them.
func TestWords(t *testing.T) {
	g := usual()
	for _, c := range words {
		g.want(t, c.s, c.answer, c.fuel)
		g.want(t, "pair("+c.s+",let(x,1,"+c.s+"))", "("+c.answer+" "+c.answer+")", 2*c.fuel+3)
	}
	g.want(t, "if(true,1,div(1,0))", "1", 3)
}

// P6.2: every word of the language stands in the table above.
func TestAllWords(t *testing.T) {
	for _, word := range strings.Fields("side nil none neg not first second len sort some is_some size bytes text show re im conj range add sub mul div mod eq lt and or pair cons concat at or_else join point if cut list let map filter fold") {
		found := false
		for _, c := range words {
			found = found || strings.HasPrefix(c.s, word+"(")
		}
		if !found {
			t.Errorf("%s isn't tried", word)
		}
	}
}

// P6.2: ints go round at 2^64, points at 2^21.
func TestEnds(t *testing.T) {
	g := usual()
	const least, most = "-9223372036854775808", "9223372036854775807"
	for _, c := range []struct{ s, answer string }{
		{"add(" + most + ",1)", least}, {"add(" + least + ",-1)", most}, {"add(" + least + "," + least + ")", "0"}, {"add(" + most + "," + most + ")", "-2"}, {"add(" + least + "," + most + ")", "-1"}, {"add(" + most + ",0)", most}, {"add(9223372036854775806,1)", most},
		{"sub(" + least + ",1)", most}, {"sub(" + most + ",-1)", least}, {"sub(0," + least + ")", least}, {"sub(" + least + "," + least + ")", "0"}, {"sub(-1," + least + ")", most}, {"sub(-1," + most + ")", least}, {"sub(-2," + most + ")", most},
		{"mul(" + most + ",2)", "-2"}, {"mul(" + least + ",-1)", least}, {"mul(" + least + ",2)", "0"}, {"mul(" + least + ",3)", least}, {"mul(" + most + "," + most + ")", "1"}, {"mul(" + least + "," + least + ")", "0"}, {"mul(4294967296,4294967296)", "0"}, {"mul(4294967295,4294967297)", "-1"}, {"mul(3037000500,3037000500)", "-9223372036709301616"},
		{"neg(" + least + ")", least}, {"neg(" + most + ")", "-9223372036854775807"}, {"div(" + least + ",-1)", least}, {"mod(" + least + ",-1)", "0"}, {"div(" + least + ",1)", least}, {"div(" + least + ",0)", "0"}, {"mod(" + least + ",0)", "0"}, {"div(" + most + ",-1)", "-9223372036854775807"}, {"div(" + most + "," + least + ")", "0"}, {"mod(" + most + "," + least + ")", most}, {"div(" + least + "," + most + ")", "-1"}, {"mod(" + least + "," + most + ")", "-1"}, {"div(" + least + "," + least + ")", "1"}, {"mod(" + least + ",10)", "-8"}, {"div(" + least + ",10)", "-922337203685477580"}, {"mod(" + most + ",-10)", "7"},
		{"lt(" + least + "," + most + ")", "true"}, {"lt(" + most + "," + least + ")", "false"}, {"lt(-1," + most + ")", "true"}, {"eq(" + least + "," + most + ")", "false"},

		{"point(1048575,-1048576)", "<1048575 -1048576>"}, {"point(1048576,-1048577)", "<-1048576 1048575>"}, {"point(2097152,-2097152)", "<0 0>"}, {"point(" + most + "," + least + ")", "<-1 0>"}, {"point(" + least + "," + most + ")", "<0 -1>"},
		{"add(point(1048575,0),point(1,0))", "<-1048576 0>"}, {"add(point(0,-1048576),point(0,-1))", "<0 1048575>"}, {"sub(point(-1048576,-1048576),point(1,1))", "<1048575 1048575>"}, {"sub(point(0,0),point(-1048576,-1048576))", "<-1048576 -1048576>"}, {"neg(point(-1048576,1048575))", "<-1048576 -1048575>"}, {"conj(point(5,-1048576))", "<5 -1048576>"}, {"mul(point(1048576,0),point(2,0))", "<0 0>"}, {"mul(point(-1048576,-1048576),point(-1048576,-1048576))", "<0 0>"}, {"mul(point(1048575,1048575),point(1048575,-1048576))", "<-1048575 -1048575>"}, {"mul(point(1000,1),point(1049,7))", "<-1048159 8049>"},
		{"re(point(1048576,5))", "-1048576"}, {"im(point(5,1048576))", "-1048576"},
	} {
		answer, fuel := g.run(t, c.s)
		if answer != c.answer || fuel == 0 {
			t.Errorf("%s: %s; want %s", c.s, answer, c.answer)
		}
		g.wantPlain(t, c.s)
	}
}

// P6.2: names are bound where the chapter says, by the innermost, and let go of behind that.
func TestNames(t *testing.T) {
	g := usual()
	for _, c := range []struct{ s, answer string }{
		{"let(x,1,let(x,2,x))", "2"}, {"let(x,1,list(let(x,2,x),x))", "[2 1]"}, {"let(x,1,list(x,let(x,2,x),x,let(y,3,x),let(x,4,let(x,5,x)),x))", "[1 2 1 1 5 1]"}, {"let(x,1,let(x,add(x,1),let(x,add(x,x),x)))", "4"}, {"let(x,let(x,1,add(x,1)),add(x,10))", "12"}, {"let(x,1,add(let(y,10,add(x,y)),let(y,20,add(x,y))))", "32"},
		{"let(x,1,if(eq(let(x,2,x),2),x,0))", "1"}, {"let(x,true,if(let(x,false,x),1,if(x,2,3)))", "2"}, {"if(let(x,true,x),let(x,1,x),let(x,2,x))", "1"}, {"let(x,1,if(true,let(y,2,add(x,y)),x))", "3"}, {"let(x,5,if(true,let(x,6,if(true,let(x,add(x,1),x),x)),x))", "7"},
		{"let(x,9,map(side(7),x,x))", "[3 1 2 1]"}, {"let(x,9,concat(map(side(7),x,x),list(x)))", "[3 1 2 1 9]"}, {"let(x,side(7),map(x,x,add(x,1)))", "[4 2 3 2]"}, {"let(x,9,map(side(7),y,x))", "[9 9 9 9]"}, {"map(side(7),x,let(x,neg(x),x))", "[-3 -1 -2 -1]"}, {"map(side(7),x,add(let(x,10,x),x))", "[13 11 12 11]"}, {"map(side(9),x,map(x,x,add(x,1)))", "[[2 3] [] [2]]"}, {"map(side(9),x,map(x,y,pair(y,len(x))))", "[[(1 2) (2 2)] [] [(1 1)]]"}, {"map(side(7),x,len(map(range(x),x,x)))", "[3 1 2 1]"},
		{"let(x,2,filter(side(7),x,eq(x,1)))", "[1 1]"}, {"let(x,2,filter(side(7),y,eq(x,y)))", "[2]"}, {"let(x,9,cons(x,filter(side(7),x,eq(x,1))))", "[9 1 1]"}, {"filter(side(7),x,let(x,eq(x,2),x))", "[2]"},
		{"fold(side(7),0,x,x,x)", "1"}, {"fold(side(7),0,x,x,mul(x,10))", "10"}, {"fold(side(7),0,a,x,add(mul(a,10),x))", "3121"}, {"fold(side(7),0,x,a,add(mul(a,10),x))", "70"}, {"let(a,5,let(x,side(7),fold(x,a,a,x,add(a,x))))", "12"}, {"let(a,5,add(fold(side(7),0,a,x,add(a,x)),a))", "12"}, {"fold(side(7),0,a,x,add(let(a,x,a),let(x,a,x)))", "7"}, {"fold(side(9),0,a,x,add(a,fold(x,0,a,x,add(a,x))))", "4"}, {"let(x,100,add(fold(side(7),0,a,x,add(a,x)),x))", "107"}, {"fold(side(7),let(a,1,a),a,x,add(a,let(b,x,b)))", "8"},
		{"let(abcdefghijklmnop,1,let(abcdefghijklmno,2,abcdefghijklmnop))", "1"}, {"let(int,1,let(name,2,let(text_of,3,list(int,name,text_of))))", "[1 2 3]"},
	} {
		answer, _ := g.run(t, c.s)
		if answer != c.answer {
			t.Errorf("%s: %s; want %s", c.s, answer, c.answer)
		}
		g.wantPlain(t, c.s)
	}
}

// P6.2: just one branch of an if is evaluated, but both Kids of and, or and or_else are.
func TestBranches(t *testing.T) {
	g := usual()
	const costly = "fold(range(5),0,a,x,add(a,x))" // 19
	const endless = "len(map(range(64),x,map(range(64),y,x)))"
	const broad = "len(list(side(9),map(range(64),x,range(40))))"
	g.want(t, costly, "10", 19)
	g.want(t, endless, "", 0)
	g.want(t, broad, "", 0)
	for _, bad := range []string{costly, endless, broad} {
		g.want(t, "if(true,1,"+bad+")", "1", 3)
		g.want(t, "if(false,"+bad+",2)", "2", 3)
		g.want(t, "if(true,if(false,"+bad+",2),"+bad+")", "2", 5)
		g.want(t, "map(list(true,false),x,if(x,1,if(not(x),2,"+bad+")))", "[1 2]", 13)
	}
	for _, c := range []struct {
		s, answer string
		fuel      int
	}{{"or(true,eq(10,%))", "true", 23}, {"or(eq(10,%),true)", "true", 23}, {"and(false,eq(10,%))", "false", 23}, {"and(eq(11,%),true)", "false", 23}, {"or_else(some(10),%)", "10", 22}, {"or_else(none(int),%)", "10", 21}, {"mul(0,%)", "0", 21}, {"first(pair(10,%))", "10", 22}, {"let(x,%,1)", "1", 21}, {"at(list(%),5)", "none", 22}} {
		g.want(t, strings.ReplaceAll(c.s, "%", costly), c.answer, c.fuel)
		g.want(t, strings.ReplaceAll(c.s, "%", endless), "", 0)
		g.want(t, strings.ReplaceAll(c.s, "%", broad), "", 0)
	}
	g.want(t, "if(eq(0,"+endless+"),1,2)", "", 0)
	g.want(t, "if(true,"+endless+",2)", "", 0)
	g.want(t, "if(false,1,"+endless+")", "", 0)
	g.want(t, "map(nil(int),x,"+endless+")", "[]", 2)
	g.want(t, "filter(nil(int),x,eq(0,"+endless+"))", "[]", 2)
	g.want(t, "fold(nil(int),it,a,x,"+endless+")", "7", 3)
}

// P6.1: a function has its term's type.
func TestType(t *testing.T) {
	g := usual()
	for _, c := range []struct{ s, typ string }{{"add(it,1)", "int"}, {"side(5)", "option(list(int))"}, {"map(side(9),x,pair(len(x),side(1)))", "list(pair(int,point))"}, {"nil(pair(int,text))", "list(pair(int,text))"}, {"none(list(bytes))", "option(list(bytes))"}, {"not(true)", "bool"}, {"let(x,side(0),bytes(x))", "bytes"}, {"nil(list(list(list(list(int)))))", "list(list(list(list(list(int)))))"}} {
		f := made(t, c.s, g.env)
		for range 2 {
			if s, _ := kind.Show(f.Type()); s != c.typ {
				t.Errorf("%s has the type %s; want %s", c.s, s, c.typ)
			}
		}
	}
}

// P6.3: a function of a list emits its values.
func TestEmit(t *testing.T) {
	g := usual()
	for _, c := range []struct {
		s    string
		want []string
	}{{"list(it)", []string{"7"}}, {"side(7)", []string{"3", "1", "2", "1"}}, {"nil(text)", nil}, {"range(0)", nil}, {"side(9)", []string{"[1 2]", "[]", "[1]"}}, {"map(range(it),x,pair(x,it))", []string{"(0 7)", "(1 7)", "(2 7)", "(3 7)", "(4 7)", "(5 7)", "(6 7)"}}, {"if(side(6),list(side(8)),nil(option(int)))", []string{"none"}}, {"filter(side(7),x,eq(x,1))", []string{"1", "1"}}} {
		f := made(t, c.s, g.env)
		for range 2 {
			values, e := f.Emit(g.it, g.sides...)
			var got []string
			for _, v := range values {
				got = append(got, shown(v))
			}
			if !slices.Equal(got, c.want) || e != api.OK {
				t.Errorf("%s emits %v, %d; want %v", c.s, got, e, c.want)
			}
		}
	}
	values, e := made(t, "map(range(64),x,it)", g.env).Emit(g.it, g.sides...)
	if len(values) != 64 || e != api.OK {
		t.Errorf("of 64 values %d are emitted, %d", len(values), e)
	}
}
