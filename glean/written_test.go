package glean_test

import (
	"math/rand"
	"strings"
	"testing"

	"glean/glean"
)

func TestP8Examples(t *testing.T) {
	checkWritten(t, `NR==2{print $1 -1 "x"}`, `(NR == 2) { print (($1 - 1) "x"); } `)
	checkRefused(t, glean.ErrForm, "{ x = 1 ¶= 2 }")
	checkRefused(t, glean.ErrUse, "{ ¶f(1) }")
}

func TestP8Parts(t *testing.T) {
	for _, c := range []struct{ program, text string }{
		{"", ""},
		{"BEGIN{}END{}{}", "BEGIN { } END { } { } "},
		{"function f(){}", "function f() { } "},
		{"function f ( a,b [ ] , c ){ return }", "function f(a, b[], c) { return; } "},
		{"1;1,2;1{}1,2{x}", "1 { print; } 1, 2 { print; } 1 { } 1, 2 { x; } "},
		{"END{}function g(){}BEGIN{}function f(){}1;", "function g() { } function f() { } END { } BEGIN { } 1 { print; } "},
		{"x=1,y=2;", "(x = 1), (y = 2) { print; } "},
		{" # c\n { # }\n x # ;\n } # {", "{ x; } "},
	} {
		checkWritten(t, c.program, c.text)
	}
}

func TestP8Statements(t *testing.T) {
	for _, c := range []struct{ program, text string }{
		{"{;}", "{ ; } "},
		{"{;;x}", "{ ; ; x; } "},
		{"{{}}", "{ { } } "},
		{"{{x;{y}};z}", "{ { x; { y; } } ; z; } "},
		{"{if(x)y}", "{ if (x) { y; } } "},
		{"{if(x);else;}", "{ if (x) { ; } else { ; } } "},
		{"{if(x){}else{}}", "{ if (x) { } else { } } "},
		{"{if(x){y;z}}", "{ if (x) { y; z; } } "},
		{"{if(x){{y}}}", "{ if (x) { { y; } } } "},
		{"{if(x)y;else if(z)1;else 2}", "{ if (x) { y; } else { if (z) { 1; } else { 2; } } } "},
		{"{if(x)if(y)1;else 2}", "{ if (x) { if (y) { 1; } else { 2; } } } "},
		{"{if(x){if(y)1}else 2}", "{ if (x) { if (y) { 1; } } else { 2; } } "},
		{"{if(x)while(y)if(z)1;else 2}", "{ if (x) { while (y) { if (z) { 1; } else { 2; } } } } "},
		{"{if(x)for(;;)if(y)1;else;else 2}", "{ if (x) { for (; ; ) { if (y) { 1; } else { ; } } } else { 2; } } "},
		{"{while(x)y;z}", "{ while (x) { y; } z; } "},
		{"{while(x){}}", "{ while (x) { } } "},
		{"{while(x)while(y);}", "{ while (x) { while (y) { ; } } } "},
		{"{for(;;);}", "{ for (; ; ) { ; } } "},
		{"{for(x;;);}", "{ for (x; ; ) { ; } } "},
		{"{for(;x;);}", "{ for (; x; ) { ; } } "},
		{"{for(;;x);}", "{ for (; ; x) { ; } } "},
		{"{for(x=1;x<2;x+=1){y}}", "{ for ((x = 1); (x < 2); (x += 1)) { y; } } "},
		{"{for(k in a)for(l in b){}}", "{ for (k in a) { for (l in b) { } } } "},
		{"{for(k in a;k in a;k in a);}", "{ for ((k in a); (k in a); (k in a)) { ; } } "},
		{"{for((k)in a;;);}", "{ for ((k in a); ; ) { ; } } "},
		{"{print}", "{ print; } "},
		{"{print x,y z,1>x y}", "{ print x, (y z), 1 > (x y); } "},
		{"{print>x;print>\"a\"}", "{ print > x; print > \"a\"; } "},
		{"{print(1)(2)}", "{ print (1 2); } "},
		{"{next;exit;exit x+1}", "{ next; exit; exit (x + 1); } "},
		{"{while(1){break;continue}}", "{ while (1) { break; continue; } } "},
		{"function f(){return;return 1;return(x)}", "function f() { return; return 1; return x; } "},
		{"{delete a;delete a[1];delete a[1,x y]}", "{ delete a; delete a[1]; delete a[1, (x y)]; } "},
	} {
		checkWritten(t, c.program, c.text)
	}
}

func TestP8Expressions(t *testing.T) {
	for _, c := range []struct{ expr, text string }{
		{"0", "0"}, {"000", "0"}, {"007", "7"}, {"100", "100"}, {"000000000000000001", "1"},
		{"123456789012345678", "123456789012345678"},
		{`""`, `""`}, {`"a b"`, `"a b"`}, {`"\n\t\"\\\/"`, `"\n\t\"\\/"`}, {"\"\t\"", `"\t"`},
		{"\"\x00\x80\r/'\xff\"", "\"\x00\x80\r/'\xff\""}, {`"\\n"`, `"\\n"`}, {`"é"`, `"é"`},
		{"/a/", "(/a/)"}, {"//", "(//)"}, {`/\/\\[\/"]\n/`, `(/\/\\[\/"]\n/)`}, {"/a\tb/", "(/a\tb/)"},
		{"(/a/)", "(/a/)"}, {"((/a/))", "(/a/)"}, {"/a|b/", "(/a|b/)"},
		{"x", "x"}, {"(x)", "x"}, {"((x))", "x"}, {"a[1]", "a[1]"}, {"a[x,y z,1]", "a[x, (y z), 1]"},
		{"a[(x)]", "a[x]"}, {"a[a[1]]", "a[a[1]]"},
		{"$1", "$1"}, {"$x", "$x"}, {"$$x", "$$x"}, {"$(x)", "$x"}, {"$a[1]", "$a[1]"}, {"$(x+1)", "$(x + 1)"},
		{"$x+1", "($x + 1)"}, {"$(-1)", "$(-1)"}, {"$length(x)", "$length(x)"}, {`$"a"`, `$"a"`},
		{"$/a/", "$(/a/)"}, {"$(x=1)", "$(x = 1)"},
		{"length(x)", "length(x)"}, {"length ( x )", "length(x)"}, {"substr(x,1,y z)", "substr(x, 1, (y z))"},
		{"length((x))", "length(x)"}, {"sub(/a/,x,$1)", "sub((/a/), x, $1)"}, {"split(x,(a))", "split(x, a)"},
		{"x+y", "(x + y)"}, {"x-y", "(x - y)"}, {"x*y", "(x * y)"}, {"x/y", "(x / y)"}, {"x%y", "(x % y)"}, {"x y", "(x y)"},
		{"x<y", "(x < y)"}, {"x<=y", "(x <= y)"}, {"x==y", "(x == y)"}, {"x!=y", "(x != y)"}, {"x>=y", "(x >= y)"}, {"x>y", "(x > y)"},
		{"x~y", "(x ~ y)"}, {"x!~y", "(x !~ y)"}, {"x&&y", "(x && y)"}, {"x||y", "(x || y)"},
		{"x in a", "(x in a)"}, {"x?y:z", "(x ? y : z)"},
		{"x=y", "(x = y)"}, {"x+=y", "(x += y)"}, {"x-=y", "(x -= y)"}, {"x*=y", "(x *= y)"}, {"x/=y", "(x /= y)"},
		{"x%=y", "(x %= y)"}, {"(x)=(y)", "(x = y)"}, {"$x=y", "($x = y)"}, {"a[1]=y", "(a[1] = y)"},
		{"($(x))=y", "($x = y)"},
		{"!x", "(!x)"}, {"-x", "(-x)"}, {"+x", "(+x)"}, {"!-+x", "(!(-(+x)))"}, {"- -x", "(-(-x))"},
		{"-1", "(-1)"}, {"!/a/", "(!(/a/))"},
		{"x+y+z", "((x + y) + z)"}, {"x-y-z", "((x - y) - z)"}, {"x-(y-z)", "(x - (y - z))"},
		{"x/y/z", "((x / y) / z)"}, {"x%y*z", "((x % y) * z)"}, {"x*(y*z)", "(x * (y * z))"},
		{"x y z", "((x y) z)"}, {"x (y z)", "(x (y z))"},
		{"x+y*z", "(x + (y * z))"}, {"x*y+z", "((x * y) + z)"}, {"(x+y)*z", "((x + y) * z)"}, {"x-y%z", "(x - (y % z))"},
		{"-x*y", "((-x) * y)"}, {"x*-y", "(x * (-y))"}, {"-x+y", "((-x) + y)"}, {"x- -y", "(x - (-y))"},
		{"!x*y", "((!x) * y)"}, {"-(x*y)", "(-(x * y))"}, {"!x y", "((!x) y)"}, {"-x~y", "((-x) ~ y)"},
		{"!x in a", "((!x) in a)"}, {"-$x", "(-$x)"}, {"$x*y", "($x * y)"},
		{"x+y z*1", "((x + y) (z * 1))"}, {"x -y z", "((x - y) z)"}, {"x(y)-z", ""}, {"x (-y)", "(x (-y))"},
		{"x $y", "(x $y)"}, {`x"a"1`, `((x "a") 1)`}, {"x length(y)", "(x length(y))"}, {"1 2", "(1 2)"},
		{"x(1)", ""}, {"x (1)", "(x 1)"},
		{"x y<z 1", "((x y) < (z 1))"}, {"x+1==y", "((x + 1) == y)"}, {"(x<y)<z", "((x < y) < z)"},
		{"x<(y<z)", "(x < (y < z))"}, {"x y>z", "((x y) > z)"},
		{"x<y~z", "((x < y) ~ z)"}, {"x~y<z", "(x ~ (y < z))"}, {"x~y z", "(x ~ (y z))"},
		{"(x~y)~z", "((x ~ y) ~ z)"}, {"x~/a/", "(x ~ (/a/))"}, {"x!~(/a/)", "(x !~ (/a/))"},
		{"x in a in b", "((x in a) in b)"}, {"x~y in a", "((x ~ y) in a)"}, {"x~(y in a)", "(x ~ (y in a))"},
		{"x y in a", "((x y) in a)"}, {"x==y in a", "((x == y) in a)"}, {"x<(y in a)", "(x < (y in a))"},
		{"1 in a&&2 in b", "((1 in a) && (2 in b))"},
		{"x&&y&&z", "((x && y) && z)"}, {"x||y||z", "((x || y) || z)"}, {"x||y&&z", "(x || (y && z))"},
		{"x&&y||z", "((x && y) || z)"}, {"x&&(y||z)", "(x && (y || z))"}, {"x||(y||z)", "(x || (y || z))"},
		{"x~y&&z~1", "((x ~ y) && (z ~ 1))"}, {"!x&&y", "((!x) && y)"},
		{"x?y:z?1:2", "(x ? y : (z ? 1 : 2))"}, {"(x?y:z)?1:2", "((x ? y : z) ? 1 : 2)"},
		{"x?y?1:2:z", "(x ? (y ? 1 : 2) : z)"}, {"x||y?z:1", "((x || y) ? z : 1)"},
		{"x?y||z:1||2", "(x ? (y || z) : (1 || 2))"},
		{"x=y=z", "(x = (y = z))"}, {"x=y?z:1", "(x = (y ? z : 1))"}, {"x?y=1:z=2", "(x ? (y = 1) : (z = 2))"},
		{"x=y||z", "(x = (y || z))"}, {"x+=y-=z*=1", "(x += (y -= (z *= 1)))"}, {"x+(y=z)", "(x + (y = z))"},
		{"x=y in a", "(x = (y in a))"}, {"x=y z", "(x = (y z))"}, {"x= -y", "(x = (-y))"},
	} {
		if c.text == "" {
			checkRefused(t, glean.ErrUse, "{ ¶"+c.expr+" }")
			continue
		}
		checkWritten(t, "{"+c.expr+"}", "{ "+c.text+"; } ")
		checkWritten(t, c.expr+";", c.text+" { print; } ")
		checkWritten(t, "{if("+c.expr+");}", "{ if ("+c.text+") { ; } } ")
		checkWritten(t, "{print("+c.expr+"),1}", "{ print "+c.text+", 1; } ")
		checkWritten(t, "{print b["+c.expr+"]}", "{ print b["+c.text+"]; } ")
		checkWritten(t, "{exit "+c.expr+"}", "{ exit "+c.text+"; } ")
		checkWritten(t, "function f(v, w) { } {f("+c.expr+","+c.expr+")}", "function f(v, w) { } { f("+c.text+", "+c.text+"); } ")
	}
}

// A spelling is a part of a program twice: as tokens with few brackets, and
// as it is to be written out.
type spelling struct {
	loose  []string
	strict string
}

// A speller makes programs at random, by the document's grammar from its top
// down, and knows of each how it is to be written out.
type speller struct {
	r        *rand.Rand
	left     int  // how many parts may still be chosen freely
	printing bool // in the list of a print, outside brackets
	loops    int
	where    string // "function", "BEGIN", "END" or ""
}

func (s *speller) one(choices ...string) string { return choices[s.r.Intn(len(choices))] }

// goesOn tells whether to make one part more.
func (s *speller) goesOn(outOf int) bool {
	s.left--
	return s.left > 0 && s.r.Intn(outOf) == 0
}

func row(parts ...any) []string {
	var all []string
	for _, part := range parts {
		switch part := part.(type) {
		case string:
			all = append(all, part)
		case []string:
			all = append(all, part...)
		}
	}
	return all
}

// within makes a part within brackets.
func (s *speller) within(inner func() spelling) spelling {
	outside := s.printing
	s.printing = false
	part := inner()
	s.printing = outside
	return part
}

func (s *speller) list() spelling {
	e := s.expr()
	for s.goesOn(3) {
		next := s.expr()
		e = spelling{row(e.loose, ",", next.loose), e.strict + ", " + next.strict}
	}
	return e
}

func (s *speller) expr() spelling {
	if s.goesOn(6) {
		place, sign, right := s.place(), s.one("=", "+=", "-=", "*=", "/=", "%="), s.expr()
		return spelling{row(place.loose, sign, right.loose), "(" + place.strict + " " + sign + " " + right.strict + ")"}
	}
	e := s.either()
	if s.goesOn(6) {
		yes, no := s.expr(), s.expr()
		return spelling{row(e.loose, "?", yes.loose, ":", no.loose), "(" + e.strict + " ? " + yes.strict + " : " + no.strict + ")"}
	}
	return e
}

func between(left spelling, sign string, right spelling) spelling {
	return spelling{row(left.loose, sign, right.loose), "(" + left.strict + " " + sign + " " + right.strict + ")"}
}

func (s *speller) either() spelling {
	e := s.both()
	for s.goesOn(6) {
		e = between(e, "||", s.both())
	}
	return e
}

func (s *speller) both() spelling {
	e := s.matched()
	for s.goesOn(6) {
		e = between(e, "&&", s.matched())
	}
	return e
}

func (s *speller) matched() spelling {
	e := s.compared()
	if s.goesOn(6) {
		e = between(e, s.one("~", "!~"), s.compared())
	}
	for s.goesOn(8) {
		e = between(e, "in", s.array())
	}
	return e
}

func (s *speller) compared() spelling {
	e := s.joined()
	if s.goesOn(6) {
		sign := s.one("<", "<=", "==", "!=", ">=", ">")
		if sign == ">" && s.printing {
			sign = "<"
		}
		e = between(e, sign, s.joined())
	}
	return e
}

func (s *speller) joined() spelling {
	e := s.sum(false)
	for s.goesOn(5) {
		next := s.sum(true)
		e = spelling{row(e.loose, next.loose), "(" + e.strict + " " + next.strict + ")"}
	}
	return e
}

// sum makes a sum, if asked so one that can be joined to something.
func (s *speller) sum(joins bool) spelling {
	e := s.product(joins)
	for s.goesOn(5) {
		e = between(e, s.one("+", "-"), s.product(false))
	}
	return e
}

func (s *speller) product(joins bool) spelling {
	e := s.unary(joins)
	for s.goesOn(5) {
		e = between(e, s.one("*", "/", "%"), s.unary(false))
	}
	return e
}

func (s *speller) unary(joins bool) spelling {
	if !joins && s.goesOn(5) {
		sign, e := s.one("!", "-", "+"), s.unary(false)
		return spelling{row(sign, e.loose), "(" + sign + e.strict + ")"}
	}
	return s.primary(joins)
}

func (s *speller) array() spelling {
	name := s.one("a", "b", "c_1")
	return spelling{[]string{name}, name}
}

func (s *speller) name() spelling {
	name := s.one("x", "y", "NR", "FS")
	return spelling{[]string{name}, name}
}

func (s *speller) element() spelling {
	array, keys := s.array(), s.within(s.list)
	return spelling{row(array.loose, "[", keys.loose, "]"), array.strict + "[" + keys.strict + "]"}
}

func (s *speller) field() spelling {
	e := s.primary(false)
	return spelling{row("$", e.loose), "$" + e.strict}
}

func (s *speller) place() spelling {
	kinds := []func() spelling{s.name, s.element, s.field, func() spelling { return s.inBrackets(s.place) }}
	if s.left <= 0 {
		return s.name()
	}
	return kinds[s.r.Intn(len(kinds))]()
}

// inBrackets makes a part in brackets, which are not written out.
func (s *speller) inBrackets(inner func() spelling) spelling {
	e := s.within(inner)
	return spelling{row("(", e.loose, ")"), e.strict}
}

func (s *speller) primary(joins bool) spelling {
	if s.goesOn(2) {
		kinds := []func() spelling{s.element, s.field, func() spelling { return s.inBrackets(s.expr) }, s.call, s.ownCall}
		return kinds[s.r.Intn(len(kinds))]()
	}
	kinds := []func() spelling{s.name, s.number, s.str, s.pattern}
	if joins {
		kinds = kinds[:3]
	}
	return kinds[s.r.Intn(len(kinds))]()
}

func (s *speller) number() spelling {
	digits := s.one("0", "1", "42", "9999999999999999")
	return spelling{[]string{s.one("", "", "0", "00") + digits}, digits}
}

func (s *speller) str() spelling {
	pairs := [][2]string{{`""`, `""`}, {`"a"`, `"a"`}, {"\"\t\"", `"\t"`}, {`"\/"`, `"/"`}, {`"\n\\\""`, `"\n\\\""`}, {`"# {"`, `"# {"`}}
	pair := pairs[s.r.Intn(len(pairs))]
	return spelling{[]string{pair[0]}, pair[1]}
}

func (s *speller) pattern() spelling {
	// In brackets, so that what stands ahead of it cannot make it divide.
	pattern := s.one("/a/", "//", `/\//`, "/[^]b]*|c/", "/= #/")
	return spelling{row("(", pattern, ")"), "(" + pattern + ")"}
}

// call makes a call of one of the functions that every program here has:
// f(v, w) and g(d[], v).
func (s *speller) call() spelling {
	if s.r.Intn(2) == 0 {
		array, e := s.array(), s.within(s.expr)
		return spelling{row("g(", array.loose, ",", e.loose, ")"), "g(" + array.strict + ", " + e.strict + ")"}
	}
	switch s.r.Intn(3) {
	case 0:
		return spelling{[]string{"f(", ")"}, "f()"}
	case 1:
		e := s.within(s.expr)
		return spelling{row("f(", e.loose, ")"), "f(" + e.strict + ")"}
	}
	e, e2 := s.within(s.expr), s.within(s.expr)
	return spelling{row("f(", e.loose, ",", e2.loose, ")"), "f(" + e.strict + ", " + e2.strict + ")"}
}

func (s *speller) ownCall() spelling {
	e := s.within(s.expr)
	switch s.r.Intn(4) {
	case 0:
		own := s.one("length", "toupper", "tolower", "sprintf")
		return spelling{row(own, "(", e.loose, ")"), own + "(" + e.strict + ")"}
	case 1:
		own, e2 := s.one("index", "match", "substr", "sub", "gsub", "sprintf"), s.within(s.expr)
		return spelling{row(own, "(", e.loose, ",", e2.loose, ")"), own + "(" + e.strict + ", " + e2.strict + ")"}
	case 2:
		own, e2, place := s.one("sub", "gsub"), s.within(s.expr), s.within(s.place)
		return spelling{row(own, "(", e.loose, ",", e2.loose, ",", place.loose, ")"), own + "(" + e.strict + ", " + e2.strict + ", " + place.strict + ")"}
	}
	array := s.array()
	return spelling{row("split", "(", e.loose, ",", array.loose, ")"), "split(" + e.strict + ", " + array.strict + ")"}
}

func (s *speller) block() spelling {
	block := spelling{[]string{"{"}, "{ "}
	for s.goesOn(2) || s.left > 0 && s.r.Intn(3) > 0 {
		next := s.statement()
		block = spelling{row(block.loose, next.loose), block.strict + next.strict}
	}
	// A last semicolon that ends a statement may be missing.
	if last := len(block.loose) - 1; block.loose[last] == "; " && s.r.Intn(2) == 0 {
		block.loose = block.loose[:last]
	}
	return spelling{row(block.loose, "}"), block.strict + "} "}
}

// body makes a statement that belongs to another one. A block is chosen
// ahead of an else, which could else be taken to belong to what is within.
func (s *speller) body(needsBlock bool) spelling {
	if needsBlock || s.goesOn(2) {
		return s.block()
	}
	e := s.statement()
	if e.loose[0] == "{" {
		return e
	}
	return spelling{e.loose, "{ " + e.strict + "} "}
}

func (s *speller) loop(head []string, strict string) spelling {
	s.loops++
	body := s.body(false)
	s.loops--
	return spelling{row(head, body.loose), strict + body.strict}
}

func (s *speller) statement() spelling {
	switch s.r.Intn(9) {
	case 0:
		return s.block()
	case 1:
		return spelling{[]string{";"}, "; "}
	case 2:
		return s.choosing()
	case 3:
		e := s.expr()
		return s.loop(row("while", "(", e.loose, ")"), "while ("+e.strict+") ")
	case 4:
		return s.counting()
	}
	// The blank tells this semicolon from a lone one.
	simple := s.simple()
	return spelling{row(simple.loose, "; "), simple.strict + "; "}
}

func (s *speller) choosing() spelling {
	hasElse := s.r.Intn(2) == 0
	e, then := s.expr(), s.body(hasElse)
	made := spelling{row("if", "(", e.loose, ")", then.loose), "if (" + e.strict + ") " + then.strict}
	if hasElse {
		other := s.body(false)
		made = spelling{row(made.loose, "else", other.loose), made.strict + "else " + other.strict}
	}
	return made
}

func (s *speller) counting() spelling {
	if s.r.Intn(2) == 0 {
		key, array := s.name(), s.array()
		return s.loop(row("for", "(", key.loose, "in", array.loose, ")"), "for ("+key.strict+" in "+array.strict+") ")
	}
	var parts [3]spelling
	for i := range parts {
		if s.r.Intn(2) == 0 {
			parts[i] = s.expr()
		}
	}
	return s.loop(row("for", "(", parts[0].loose, ";", parts[1].loose, ";", parts[2].loose, ")"),
		"for ("+parts[0].strict+"; "+parts[1].strict+"; "+parts[2].strict+") ")
}

func (s *speller) simple() spelling {
	switch s.r.Intn(6) {
	case 0:
		return s.print()
	case 1:
		return s.ending("exit")
	case 2:
		if s.where == "function" {
			return s.ending("return")
		}
		if s.where == "" {
			return spelling{[]string{"next"}, "next"}
		}
	case 3:
		if s.loops > 0 {
			word := s.one("break", "continue")
			return spelling{[]string{word}, word}
		}
	case 4:
		if s.r.Intn(2) == 0 {
			array := s.array()
			return spelling{row("delete", array.loose), "delete " + array.strict}
		}
		element := s.element()
		return spelling{row("delete", element.loose), "delete " + element.strict}
	}
	return s.expr()
}

func (s *speller) print() spelling {
	made := spelling{[]string{"print"}, "print"}
	if s.r.Intn(4) > 0 {
		s.printing = true
		list := s.list()
		s.printing = false
		made = spelling{row(made.loose, list.loose), made.strict + " " + list.strict}
	}
	if s.r.Intn(3) == 0 {
		stream := s.joined()
		made = spelling{row(made.loose, ">", stream.loose), made.strict + " > " + stream.strict}
	}
	return made
}

func (s *speller) ending(word string) spelling {
	if s.r.Intn(3) == 0 {
		return spelling{[]string{word}, word}
	}
	e := s.expr()
	return spelling{row(word, e.loose), word + " " + e.strict}
}

func (s *speller) rule() spelling {
	switch s.where = s.one("BEGIN", "END", "", "", ""); {
	case s.where != "":
		block := s.block()
		return spelling{row(s.where, block.loose), s.where + " " + block.strict}
	case s.r.Intn(3) == 0:
		return s.block()
	}
	e := s.expr()
	if s.r.Intn(3) == 0 {
		second := s.expr()
		e = spelling{row(e.loose, ",", second.loose), e.strict + ", " + second.strict}
	}
	if s.r.Intn(3) == 0 {
		return spelling{row(e.loose, ";"), e.strict + " { print; } "}
	}
	block := s.block()
	return spelling{row(e.loose, block.loose), e.strict + " " + block.strict}
}

func (s *speller) function(head []string, strict string) spelling {
	s.where = "function"
	body := s.block()
	return spelling{row(head, body.loose), strict + body.strict}
}

// program makes a program of the two functions and some rules, in any order.
func (s *speller) program() spelling {
	s.left = 10
	f := s.function([]string{"function", s.one("f(", "f ("), "v", ",", "w", ")"}, "function f(v, w) ")
	s.left = 10
	g := s.function([]string{"function", "g(", "d", "[", "]", ",", "v", ")"}, "function g(d[], v) ")
	made := spelling{nil, f.strict + g.strict}
	parts := [][]string{f.loose, g.loose}
	for range s.r.Intn(4) {
		s.left = 5 + s.r.Intn(40)
		rule := s.rule()
		at := s.r.Intn(len(parts) + 1)
		if at < len(parts) {
			// Ahead of the functions that are still to come; of the rules the
			// last one stays the last.
			made.loose = append(made.loose, parts[0]...)
			parts = parts[1:]
		}
		made = spelling{row(made.loose, rule.loose), made.strict + rule.strict}
	}
	for _, part := range parts {
		made.loose = append(made.loose, part...)
	}
	return made
}

// text puts the tokens together with what may stand between them.
func (s *speller) text(tokens []string) string {
	var b strings.Builder
	for _, token := range tokens {
		b.WriteString(token)
		switch s.r.Intn(20) {
		case 0:
			b.WriteString("\n\t")
		case 1:
			b.WriteString("#(\"\n")
		default:
			b.WriteString(" ")
		}
	}
	return b.String()
}

func TestP8AnyProgram(t *testing.T) {
	s := speller{r: rand.New(rand.NewSource(8))}
	taken, again := 0, 0
	for range 20000 {
		program := s.program()
		text := s.text(program.loose)
		if len(text) > maxProgram {
			continue
		}
		taken++
		if len(program.strict) <= maxProgram {
			again++
		}
		checkWritten(t, text, program.strict)
		if t.Failed() {
			return
		}
	}
	if taken < 5000 || again < 3000 {
		t.Errorf("only %d programs were short enough, and %d when written out", taken, again)
	}
}

// A program that was written out does the same as the one it was made of, up
// to the last step.
func TestP9DoesTheSame(t *testing.T) {
	s := speller{r: rand.New(rand.NewSource(9))}
	ends := map[glean.Errno]int{}
	for range 20000 {
		program := s.program()
		text := s.text(program.loose)
		if len(text) > maxProgram || len(program.strict) > maxProgram {
			continue
		}
		input := s.one("", "a", "a b\n1 2\n", "0\n\n42 a /\na")
		fuel := s.r.Intn(s.r.Intn(maxFuel) + 1)
		want := runOf(t, text, input, fuel)
		ends[want.e]++
		checkOutcome(t, "P9", program.strict, input, fuel, want)
		if t.Failed() {
			return
		}
	}
	for _, e := range []glean.Errno{glean.OK, glean.ErrFuel, glean.ErrZero, glean.ErrField} {
		if ends[e] < 50 {
			t.Errorf("only %d programs end with the error %d", ends[e], e)
		}
	}
}
