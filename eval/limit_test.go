package eval

import (
	"fmt"
	"strings"
	"testing"

	"watershed/api"
)

// P6.2: lists of just MaxList, of one less, and of more, by each word that makes them.
func TestLongLists(t *testing.T) {
	g := usual()
	for _, many := range []int{0, 1, 62, 63, 64, 65, 66, 1000, 1 << 40, 1<<63 - 1} {
		g.want(t, fmt.Sprintf("range(%d)", many), numbers(min(many, 64)), 2)
	}
	for _, many := range []int{63, 64} {
		l := fmt.Sprintf("range(%d)", many)
		g.want(t, "map("+l+",x,x)", numbers(many), 3+many)
		g.want(t, "filter("+l+",x,true)", numbers(many), 3+many)
		g.want(t, "sort("+l+")", numbers(many), 3)
		g.want(t, "list("+times(many, "1")+")", "["+strings.Repeat("1 ", many-1)+"1]", 1+many)
		g.want(t, "fold("+l+",nil(int),a,x,concat(a,list(x)))", numbers(many), 4+4*many)
		g.want(t, "len(concat("+l+",nil(int)))", fmt.Sprint(many), 5)
	}
	last := func(s string) string { return "pair(len(" + s + "),pair(at(" + s + ",0),at(" + s + ",63)))" }
	for _, c := range []struct {
		s, answer string
		fuel      int
	}{
		{"cons(9,range(62))", "(63 (!9 none))", 4}, {"cons(9,range(63))", "(64 (!9 !62))", 4}, {"cons(9,range(64))", "(64 (!9 !62))", 4}, {"cons(9,cons(8,range(64)))", "(64 (!9 !61))", 6},
		{"concat(range(31),range(32))", "(63 (!0 none))", 5}, {"concat(range(32),range(32))", "(64 (!0 !31))", 5}, {"concat(range(32),range(33))", "(64 (!0 !31))", 5}, {"concat(range(33),range(32))", "(64 (!0 !30))", 5}, {"concat(range(64),list(9))", "(64 (!0 !63))", 5}, {"concat(list(9),range(64))", "(64 (!9 !62))", 5}, {"concat(range(64),range(64))", "(64 (!0 !63))", 5},
	} {
		g.want(t, last(c.s), c.answer, 3*c.fuel+7)
	}
	g.want(t, "at(range(64),64)", "none", 4)
	// Where more than MaxList would come, the first ones stay, so that they come again and again.
	g.want(t, "at(fold(range(64),range(64),a,x,cons(add(x,100),a)),63)", "!100", 327)
}

// P6.2: texts and bytes of just MaxText, of one less, and of more, by each word that makes them.
func TestLongTexts(t *testing.T) {
	g := usual()
	quoted := func(mark, s string) string { return mark + s + mark }
	as := func(many int) string { return strings.Repeat("a", many) }
	text := func(many int) string { return `"` + as(many) + `"` }
	for _, many := range []int{255, 256} {
		s := text(many)
		g.want(t, s, quoted(`"`, as(many)), 1)
		g.want(t, "bytes("+s+")", quoted("'", as(many)), 2)
		g.want(t, "text(bytes("+s+"))", quoted(`"`, as(many)), 3)
		g.want(t, "cut("+s+",0,999)", quoted(`"`, as(many)), 4)
		g.want(t, "cut("+s+",1,256)", quoted(`"`, as(many-1)), 4)
		g.want(t, "cut(bytes("+s+"),-5,255)", quoted("'", as(255)), 5)
		g.want(t, "size("+s+")", fmt.Sprint(many), 2)
		g.want(t, "join("+s+`,"")`, quoted(`"`, as(many)), 3)
		g.want(t, `join("",`+s+")", quoted(`"`, as(many)), 3)
		g.want(t, "join("+s+`,"b")`, quoted(`"`, as(many)+strings.Repeat("b", 256-many)), 3)
		g.want(t, `join("b",`+s+")", quoted(`"`, "b"+as(255)), 3)
		g.want(t, "join("+s+","+s+")", quoted(`"`, as(256)), 3)
	}
	g.want(t, "join("+text(128)+`,join("b",`+text(126)+"))", quoted(`"`, as(128)+"b"+as(126)), 5)
	g.want(t, "join("+text(128)+`,join("b",`+text(127)+"))", quoted(`"`, as(128)+"b"+as(127)), 5)
	g.want(t, "join("+text(128)+`,join("b",join(`+text(127)+`,"c")))`, quoted(`"`, as(128)+"b"+as(127)), 7)
	g.want(t, `size(fold(range(64),"",a,x,join(a,"abcd")))`, "256", 5+64*3)
	g.want(t, `fold(range(64),"x",a,x,join(a,"abcd"))`, `"x`+strings.Repeat("abcd", 63)+`abc"`, 4+64*3)
}

// spending tells the text of an int that takes just so much fuel.
func spending(fuel int) string {
	switch {
	case fuel == 1:
		return "0"
	case fuel == 2:
		return "neg(0)"
	case fuel <= 66:
		return "len(list(" + times(fuel-2, "0") + "))"
	case fuel <= 133:
		return "add(" + spending(fuel/2) + "," + spending(fuel-1-fuel/2) + ")"
	}
	each := (fuel - 6) / 64
	return "add(fold(range(64),0,a,x," + spending(each) + ")," + spending(fuel-5-64*each) + ")"
}

// P6.2: all that takes up to MaxFuel has a value, and nothing that would take more.
func TestFuel(t *testing.T) {
	g := usual()
	for fuel := 1; fuel <= 2100; fuel++ {
		s := spending(fuel)
		answer, took := g.run(t, s)
		if fuel <= 2000 && (answer == "" || took != fuel) || fuel > 2000 && answer != "" {
			t.Errorf("%s takes %d; want %d", s, took, fuel)
		}
	}
	for _, fuel := range []int{1, 2, 3, 66, 67, 133, 134, 500, 1999, 2000, 2001, 2002, 2100} {
		g.wantPlain(t, spending(fuel))
	}
	g.want(t, "len(map(range(64),x,map(range(64),y,x)))", "", 0)
	g.want(t, "map(range(64),x,fold(range(64),0,a,y,fold(range(64),0,b,z,a)))", "", 0)
}

// P6.2: of each word, with the evaluation number MaxFuel as its last one, and with the one behind it; and with others behind all of its own.
func TestLastFuel(t *testing.T) {
	g := usual()
	for _, c := range words {
		ahead, behind := spending(1999-c.fuel), spending(2000-c.fuel)
		g.want(t, "let(pad,"+ahead+","+c.s+")", c.answer, 2000)
		g.want(t, "let(pad,"+behind+","+c.s+")", "", 0)
		g.want(t, "if(eq(0,"+spending(1997-c.fuel)+"),"+c.s+","+c.s+")", c.answer, 2000)
		g.want(t, "if(eq(0,"+spending(1998-c.fuel)+"),"+c.s+","+c.s+")", "", 0)
		g.want(t, "let(pad,"+c.s+","+spending(1999-c.fuel)+")", fmt.Sprint(spent(1999-c.fuel)), 2000)
		g.want(t, "let(pad,"+c.s+","+spending(2000-c.fuel)+")", "", 0)
	}
}

// spent tells what comes of a text that takes so much fuel.
func spent(fuel int) int {
	switch {
	case fuel <= 2:
		return 0
	case fuel <= 66:
		return fuel - 2
	case fuel <= 133:
		return spent(fuel/2) + spent(fuel-1-fuel/2)
	}
	each := (fuel - 6) / 64
	return spent(each) + spent(fuel-5-64*each)
}

// P6.2: a value of the size MaxSize is made, and one of more ends all, even if it isn't told.
func TestSizes(t *testing.T) {
	run := func(s string, it api.Value) (string, api.Errno) {
		f := made(t, s, envOf("list(list(int))"))
		v, fuel, e := f.Run(it)
		if e != api.OK && (!isNothing(v) || fuel != 0) {
			t.Errorf("%s: beside %d: %s, %d", s, e, shown(v), fuel)
		}
		plain, took := plainRun(term(s), given{it: it})
		if e == api.OK && (shown(v) != plain || fuel != took) || e != api.OK && plain != "" {
			t.Errorf("%s: %d, %d, or not the value that it should be", s, fuel, e)
		}
		return shown(v), e
	}
	for _, c := range []struct {
		s    string
		more int
	}{
		{"some(it)", 1}, {"list(it)", 1}, {"pair(it,1)", 2}, {"pair(1,it)", 2}, {"pair(nil(int),it)", 2}, {"list(it,nil(list(int)))", 2}, {"list(nil(list(int)),list(nil(int)),it)", 4}, {"cons(nil(int),it)", 1}, {"cons(range(9),it)", 10}, {"cons(it,nil(list(list(int))))", 1}, {"concat(it,list(nil(int)))", 1}, {"concat(list(range(3)),it)", 4}, {"at(list(it),0)", 1}, {"or_else(some(it),it)", 1},
		{"map(range(1),x,it)", 1}, {"map(range(2),x,if(eq(x,0),it,nil(list(int))))", 2}, {"map(list(it),x,cons(nil(int),x))", 2}, {"filter(list(it),x,false)", 1}, {"filter(list(it),x,true)", 1}, {"sort(list(nil(list(int)),it))", 2}, {"fold(range(1),it,a,x,cons(nil(int),a))", 1}, {"fold(range(5),it,a,x,cons(nil(int),a))", 5}, {"fold(list(it),0,a,x,len(cons(range(2),x)))", 3}, {"let(x,it,cons(nil(int),x))", 1}, {"let(x,some(it),1)", 1}, {"if(true,list(it),nil(list(list(int))))", 1}, {"if(eq(it,list(range(1))),nil(list(list(int))),list(it))", 1},
		{"len(list(it))", 1}, {"first(pair(it,1))", 2}, {"is_some(some(it))", 1}, {"second(pair(some(it),1))", 3}, {"eq(some(it),none(list(list(int))))", 1}, {"or_else(at(list(it),1),nil(list(int)))", 1},
	} {
		if answer, e := run(c.s, sized(2000-c.more)); answer == "" || e != api.OK {
			t.Errorf("%s of the size 2000: %d", c.s, e)
		}
		if _, e := run(c.s, sized(2001-c.more)); e != api.ErrFuel {
			t.Errorf("%s of the size 2001: %d", c.s, e)
		}
		if answer, e := run("if(true,it,let(x,"+c.s+",it))", sized(2000)); answer != shown(sized(2000)) || e != api.OK {
			t.Errorf("%s, which isn't evaluated: %d", c.s, e)
		}
	}
	for _, s := range []string{"it", "sort(it)", "map(it,x,x)", "filter(it,x,true)", "concat(it,nil(list(int)))", "concat(nil(list(int)),it)", "or_else(none(list(list(int))),it)", "let(x,it,x)", "fold(range(2),it,a,x,a)", "if(lt(it,it),nil(list(int)),it)", "cons(or_else(at(it,0),nil(int)),map(range(30),x,or_else(at(it,add(x,1)),nil(int))))"} {
		if answer, e := run(s, sized(2000)); len(answer) != len(shown(sized(2000))) || e != api.OK {
			t.Errorf("%s of the size 2000: %d", s, e)
		}
	}
	for _, c := range []struct {
		s     string
		sizes []int
	}{{"pair(it,it)", []int{999, 1000, 2000}}, {"list(it,it)", []int{999, 1000, 2000}}, {"concat(it,it)", []int{1000, 1001, 2000}}, {"map(range(2),x,it)", []int{999, 1000, 2000}}, {"map(range(3),x,it)", []int{666, 667, 2000}}, {"pair(pair(it,1),pair(2,it))", []int{997, 998, 2000}}} {
		for i, size := range c.sizes {
			if _, e := run(c.s, sized(size)); (i == 0) != (e == api.OK) || (i > 0) != (e == api.ErrFuel) {
				t.Errorf("%s of the size %d: %d", c.s, size, e)
			}
		}
	}
}

// P6.2: what is cut away of a list doesn't count for its size.
func TestSizesOfCut(t *testing.T) {
	it := list()
	for range 63 {
		it.List = append(it.List, said(numbers(30)))
	}
	it.List = append(it.List, said(numbers(45)))
	for _, c := range []struct {
		s    string
		fits bool
	}{{"it", true}, {"cons(range(45),it)", true}, {"cons(range(46),it)", false}, {"cons(nil(int),it)", true}, {"concat(it,it)", true}, {"concat(it,list(range(64)))", true}, {"concat(list(range(45)),it)", true}, {"concat(list(range(46)),it)", false}, {"concat(list(nil(int),range(64)),it)", true}, {"concat(list(range(15),range(60)),it)", true}, {"concat(list(range(16),range(60)),it)", false}} {
		v, _, e := made(t, c.s, envOf("list(list(int))")).Run(it)
		plain, _ := plainRun(term(c.s), given{it: it})
		if c.fits && (e != api.OK || shown(v) != plain) || !c.fits && (e != api.ErrFuel || plain != "") {
			t.Errorf("%s: %d", c.s, e)
		}
	}
}
