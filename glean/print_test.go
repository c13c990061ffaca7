package glean_test

import (
	"strings"
	"testing"

	"glean/glean"
)

const maxProgram = 600

// atMark answers a program without its mark, and the mark's place.
func atMark(t *testing.T, marked string) (string, int) {
	t.Helper()
	before, after, ok := strings.Cut(marked, "¶")
	if !ok || strings.Contains(after, "¶") {
		t.Fatalf("%q has not one mark", marked)
	}
	return before + after, len(before)
}

// checkRefused holds Print to that error at the mark of each program.
func checkRefused(t *testing.T, e glean.Errno, marked ...string) {
	t.Helper()
	for _, m := range marked {
		program, place := atMark(t, m)
		if text, got, at := glean.Print(program); text != "" || got != e || at != place {
			t.Errorf("P7: Print(%q) = %q, %d, %d, want the error %d at %d", program, text, got, at, e, place)
		}
	}
}

func checkTaken(t *testing.T, programs ...string) {
	t.Helper()
	for _, program := range programs {
		if _, e, at := glean.Print(program); e != glean.OK || at != 0 {
			t.Errorf("P7: Print(%q): the error %d at %d", program, e, at)
		}
	}
}

// checkWritten holds Print to a program's text, and to that text again (P9).
func checkWritten(t *testing.T, program, want string) {
	t.Helper()
	text, e, at := glean.Print(program)
	if text != want || e != glean.OK || at != 0 {
		t.Errorf("P8: Print(%q) = %q, %d, %d, want %q", program, text, e, at, want)
	}
	if len(want) > maxProgram {
		return
	}
	if again, e, at := glean.Print(want); again != want || e != glean.OK || at != 0 {
		t.Errorf("P9: Print(%q) = %q, %d, %d", want, again, e, at)
	}
}

func TestP7Length(t *testing.T) {
	for _, c := range []struct {
		program string
		e       glean.Errno
		place   int
	}{
		{strings.Repeat(" ", maxProgram), glean.OK, 0},
		{strings.Repeat(" ", maxProgram+1), glean.ErrLong, 0},
		{strings.Repeat("(", maxProgram), glean.ErrForm, maxProgram},
		{strings.Repeat("(", maxProgram+1), glean.ErrLong, 0},
		{"{ return }" + strings.Repeat(" ", maxProgram-10), glean.ErrUse, 2},
		{"{ return }" + strings.Repeat(" ", maxProgram-9), glean.ErrLong, 0},
		{"@" + strings.Repeat("\n", 1<<24), glean.ErrLong, 0},
	} {
		if text, e, at := glean.Print(c.program); text != "" || e != c.e || at != c.place {
			t.Errorf("P7: Print of %d bytes: %q, %d, %d, want %d, %d", len(c.program), text, e, at, c.e, c.place)
		}
	}
}

// What is counted is the program alone, not what Print makes of it.
func TestP7LongAnswer(t *testing.T) {
	program := strings.Repeat("1;", maxProgram/2)
	checkWritten(t, program, strings.Repeat("1 { print; } ", maxProgram/2))
	deep := "{" + strings.Repeat("-", maxProgram-3) + "1}"
	checkWritten(t, deep, "{ "+strings.Repeat("(-", maxProgram-3)+"1"+strings.Repeat(")", maxProgram-3)+"; } ")
}

func TestP7DeepProgramsEnd(t *testing.T) {
	for _, part := range []string{"(", "{", "$", "!", "x[", "f(", "length(", "1?", "x=", "{if(1)", "{while(1)", "{for(;;)", "1||", "1 "} {
		program := strings.Repeat(part, maxProgram/len(part))
		if _, e, at := glean.Print(program); e != glean.ErrForm || at != len(program) {
			t.Errorf("P7: Print(%q ..) = %d, %d", part, e, at)
		}
	}
	half := (maxProgram - 4) / 2
	checkTaken(t, "{ "+strings.Repeat("(", half)+"1"+strings.Repeat(")", half)+"}")
	checkTaken(t, strings.Repeat("{", maxProgram/2)+strings.Repeat("}", maxProgram/2))
}

func TestP7EmptyPrograms(t *testing.T) {
	for _, program := range []string{"", " ", "\n\t ", "#", "# {", "#\n#\n", " # (\n\t# \"\n"} {
		if text, e, at := glean.Print(program); text != "" || e != glean.OK || at != 0 {
			t.Errorf("P7: Print(%q) = %q, %d, %d", program, text, e, at)
		}
	}
	checkRefused(t, glean.ErrForm, "¶;", "# a\n¶;", "¶,", "¶}", "¶)", "¶print", "¶else", "¶in", "¶return 1;", "x(¶", "¶~ 1;")
}

func TestP7Numbers(t *testing.T) {
	checkTaken(t, "123456789012345678;", "000000000000000000;", "999999999999999999;", "1 2;", "1\n;")
	checkRefused(t, glean.ErrForm,
		"¶1234567890123456789;", "¶0000000000000000001;", "1 ¶9999999999999999999;",
		"¶1x;", "¶1_;", "{ x = ¶12e3 }", "¶0x10;", "¶1if;", "1¶.5;", "¶123456789012345678a;")
	checkWritten(t, `1"a";`, `(1 "a") { print; } `)
	checkWritten(t, "1$1;", "(1 $1) { print; } ")
}

func TestP7Strings(t *testing.T) {
	checkTaken(t, `"";`, `"a b#c/d";`, `"\n\t\"\\\/";`, "\"\t\x00\r\x80\xff\";", `"\\";`, `"'";`)
	checkRefused(t, glean.ErrForm,
		`¶"`, `¶"a`, `¶"a\`, `¶"a\"`, `¶"a\";`, "¶\"a\nb\";", "¶\"a\\\nb\";", `1 ¶"\q";`, `¶"\a";`, `¶"\0";`, `¶"\x41";`,
		`¶"\&";`, `¶"\r";`, `¶"\N";`, `"a" ¶"`, `"a\\"¶";`)
}

func TestP7Patterns(t *testing.T) {
	checkTaken(t, "//;", "/a/;", `/\//;`, `/[\/]/;`, `/a\\/;`, `/"/;`, "/#/;", "/=/;", "/ /;", "/\t\x00\xff/;", `/(a|b)*[^]a-c]+\.$/;`,
		"!/a/;", "$/a/;", "{ print /a/, /b/ }", "{ return_ = /a/ }", "/a/ ~ /b/;", "1 || /a/;", "x ? /a/ : /b/;", "{ } /a/;")
	checkRefused(t, glean.ErrForm,
		"¶/", "¶/a", `¶/a\/`, `¶/a\`, "¶/a\nb/;", "¶/a\\\nb/;", "¶/(/;", "¶/)/;", "¶/*/;", "¶/a|/;", "¶/()/;",
		"¶/[/;", "¶/[/]/;", "¶/[]/;",
		"¶/[b-a]/;", `¶/[a-\\]/;`, "1 || ¶/+/;", "{ x = ¶/?/ }", "/a/¶", `¶/\\\/;`)
}

// Whether a / divides is told by the token ahead of it.
func TestP7Slash(t *testing.T) {
	for _, c := range []struct{ program, text string }{
		{"{ 1 /a/ 2 }", "{ ((1 / a) / 2); } "},
		{`{ "1" /a/ 2 }`, `{ (("1" / a) / 2); } `},
		{"{ /x/ /a/ 2 }", "{ (((/x/) / a) / 2); } "},
		{"{ x /a/ 2 }", "{ ((x / a) / 2); } "},
		{"{ x\n# c /\n/a/ 2 }", "{ ((x / a) / 2); } "},
		{"{ (x) /a/ 2 }", "{ ((x / a) / 2); } "},
		{"{ b[1] /a/ 2 }", "{ ((b[1] / a) / 2); } "},
		{"{ length(1) /a/ 2 }", "{ ((length(1) / a) / 2); } "},
		{"{ $1 /a/ 2 }", "{ (($1 / a) / 2); } "},
		{"{ x /= 2 }", "{ (x /= 2); } "},
		{"{ x = /= 2/ }", "{ (x = (/= 2/)); } "},
		{"{ x /=/= 2/ }", "{ (x /= (/= 2/)); } "},
		{"{ print /a/ }", "{ print (/a/); } "},
		{"{ exit /a/ }", "{ exit (/a/); } "},
		{"{ if (/a/) { /b/ } else /c/ }", "{ if ((/a/)) { (/b/); } else { (/c/); } } "},
		{"{ } /a/ { }", "{ } (/a/) { } "},
		{"/a/, /b/ { ; /c/ }", "(/a/), (/b/) { ; (/c/); } "},
		{"{ x = -/a/ * /b/ % !/c/ }", "{ (x = (((-(/a/)) * (/b/)) % (!(/c/)))); } "},
		{"{ x[/a/, /b/] }", "{ x[(/a/), (/b/)]; } "},
		{"{ x / /a/ / /b/ }", "{ ((x / (/a/)) / (/b/)); } "},
		{"{ $/a/ /b }", "{ ($(/a/) / b); } "},
		{"{ for (/a/; /b/; /c/) { /d/ } }", "{ for ((/a/); (/b/); (/c/)) { (/d/); } } "},
	} {
		checkWritten(t, c.program, c.text)
	}
	checkRefused(t, glean.ErrForm,
		"{ if (x) ¶/a/ }", "{ for (;;) ¶/a/; }", "{ x /¶", "{ length ¶/a/ }", "{ x /a/ ¶}", "{ 1 ¶/= 2 }",
		"x /a/¶;", "{ NR /¶) }")
}

func TestP7Names(t *testing.T) {
	checkTaken(t,
		"_;", "a1_B;", "_azAZ09;", "Begin;", "BEGINS;", "iff;", "ins;", "lengths;", "printf;", "getline;",
		"Print;", "x\n(1);", "x # (\n(1);")
	checkRefused(t, glean.ErrForm,
		"¶é;", "x¶é;", "x¶`;", "x¶@;", "¶\x80;", "x¶.y;", "¶@;", "¶&;", "1 ¶| 2;", "1 ¶& 2;", "x ¶\r;", "¶`;",
		"¶'a';", "x¶\\y;", "¶\x00;", "1 ¶^ 2;", "1 || ¶|", "x ¶\v;", "x ¶\f;",
		"BEGIN ¶END", "{ ¶function }", "{ x = ¶print }", "{ ¶BEGIN }", "{ x ¶print }", "{ x = ¶in }",
		"{ length¶[1] }", "{ ¶in x }", "{ length ¶= 1 }")
}

// Where the grammar has a name alone, no bracket stands right behind it.
func TestP7NameWithBracket(t *testing.T) {
	checkTaken(t,
		"function f(x) { } { f(1) }", "function f (x) { } { f(1) }", "function f\n( x [ ] ) { }", "{ f (1) }",
		"{ print x (1) }", "{ length (1) }", "{ length\n(1) }")
	checkRefused(t, glean.ErrForm,
		"1 in ¶a(1);", "{ for (x in ¶a(1)) ; }", "{ for (x(¶in a) ; }", "{ delete ¶a(1) }", "function f(¶x()) { }",
		"function f(x, ¶y()) { }", "{ delete a ¶(1) }",
		"function f(x ¶(y)) { }", "1 in a ¶(1);")
	checkRefused(t, glean.ErrUse, "{ ¶f() }", "{ x = 1; ¶x() }", "{ x = ¶x(1) }")
}

func TestP7Rules(t *testing.T) {
	checkTaken(t,
		"1;", "1, 2;", "1 { }", "1, 2 { }", "{ }", "BEGIN { } END { } BEGIN { }", "x = 1;", "x = 1, y = 2 { }",
		"x ? y : z;", "1;2;", "{ }{ }", "1{ }2, 3{ }4;")
	checkRefused(t, glean.ErrForm,
		"1¶", "1 # ;¶", "1 ¶}", "1, ¶;", "1, ¶{ }", "1, 2¶, 3;", "¶, 1;", "BEGIN¶", "BEGIN ¶;", "BEGIN ¶1 { }",
		"END ¶( 1 ) { }", "{ } ¶;", "{ } ¶}", "1; ¶;", "{¶", "{ ¶",
		"BEGIN { ¶", "{ x¶", "{ { }¶", "1, 2¶", "1,¶", "1 ¶BEGIN { }", "{ } ¶else", "END¶", "1 ¶= 2;", "x = 1 ¶= 2;")
}

func TestP7Functions(t *testing.T) {
	checkTaken(t,
		"function f() { }", "function f(x) { }", "function f(x[]) { }", "function f(x, y[], z) { }",
		"function f(x,y[ ]){}function g(){}")
	checkRefused(t, glean.ErrForm,
		"function¶", "function ¶1", "function ¶(", "function ¶if() { }", "function ¶length() { }", "function f¶",
		"function f ¶{ }", "function f(¶", "function f(¶,", "function f(¶1)",
		"function f(x¶", "function f(x,¶", "function f(x,¶)", "function f(x[¶", "function f(x[¶1])",
		"function f(x[¶)", "function f(x[]¶", "function f(x[] ¶[])", "function f(x ¶y)",
		"function f(x ¶= 1)", "function f(¶$1)", "function f(¶length)", "function f()¶", "function f() ¶;",
		"function f() ¶return", "function f() {¶", "{ ¶function f() { } }", "function ¶function f() { }")
}

func TestP7Statements(t *testing.T) {
	checkTaken(t,
		"{ ; }", "{ ;; }", "{ { } }", "{ { ; } ; { } }", "{ x }", "{ x; }", "{ x; y }", "{ { x } y }",
		"{ if (1) x }", "{ if (1) x; }", "{ if (1) { } x }", "{ if (1) { } else { } x }",
		"{ if (1) ; else ; }", "{ if (1) if (2) x; else y; else z }", "{ while (1) x }", "{ while (1) { } x }",
		"{ for (;;) x }", "{ for (x;y;z) { } x }", "{ for (x in a) { } x }",
		"{ while (1) if (2) for (;;) x; else y }", "{ next }", "{ exit }", "{ exit; }", "{ exit 1 }",
		"{ delete a }", "{ delete a[1]; }", "{ delete a[1, 2] }", "{ print }", "{ print; print }")
	checkRefused(t, glean.ErrForm,
		"{ x ¶", "{ x y¶", "{ x; ¶", "{ x ¶{ } }", "{ x ¶if (1) y }", "{ print ¶print }", "{ { x } ¶", "{ if¶",
		"{ if ¶1", "{ if ¶{ }", "{ if (¶) ; }", "{ if (1¶", "{ if (1¶; x) ; }",
		"{ if (1)¶", "{ if (1) ¶}", "{ if (1) x ¶else y }", "{ if (1) { } else ¶}", "{ if (1) { } else¶",
		"{ if (1) ; ; ¶else ; }", "{ if (1) ; else ; ¶else ; }", "{ ¶else ; }",
		"{ if (1) x; else y ¶else z }", "{ while ¶x }", "{ while (¶) ; }", "{ while (1) ¶}", "{ while (1¶, 2) ; }",
		"{ while (1) ; ¶else ; }", "{ next ¶1 }", "{ break ¶x }", "{ continue¶, }",
		"{ exit ¶, }", "{ exit 1¶, 2 }", "{ return ¶) }", "{ return 1¶, 2 }", "{ exit ¶> 1 }", "{ delete ¶}",
		"{ delete ¶1 }", "{ delete ¶(a) }", "{ delete ¶$1 }", "{ delete a[¶] }",
		"{ delete a[1 ¶}", "{ delete a[1] ¶[2] }", "{ delete a ¶b }", "{ delete a¶, b }", "{ delete a[1]¶, b }",
		"{ delete a ¶= 1 }", "{ delete ¶length }", "{ x ¶) }", "{ next ¶")
}

func TestP7For(t *testing.T) {
	checkTaken(t,
		"{ for (;;) ; }", "{ for (x;;) ; }", "{ for (;x;) ; }", "{ for (;;x) ; }", "{ for (x;y;) ; }",
		"{ for (x;;z) ; }", "{ for (;y;z) ; }", "{ for (x = 1; x < 2; x += 1) ; }",
		"{ for (k in a) ; }", "{ for (k in a;;) ; }", "{ for (k in a in b;;) ; }", "{ for (k in a && 1;;) ; }",
		"{ for (k in a ? 1 : 2; k in a; k in a) ; }", "{ for ((k) in a;;) ; }", "{ for ((k in a);;) ; }")
	checkRefused(t, glean.ErrForm,
		"{ for¶", "{ for ¶;", "{ for (¶", "{ for (¶)", "{ for (;¶", "{ for (;¶)", "{ for (;;¶", "{ for (;;¶;)",
		"{ for (;;)¶", "{ for (;;) ¶}", "{ for (x¶) ;", "{ for (x¶", "{ for (x;y¶)", "{ for (x;y;z¶;) ; }",
		"{ for (x¶, y; ; ) ; }", "{ for (k in ¶) ; }", "{ for (k in ¶1) ; }", "{ for (k in ¶(a)) ; }",
		"{ for (k in a¶", "{ for (k in a ¶b) ; }", "{ for (k in a¶[1]) ; }", "{ for (k in a)¶", "{ for (k in a) ¶}",
		"{ for ((k) in a¶) ; }", "{ for ((k in a)¶) ; }", "{ for (k in a in b¶) ; }", "{ for (1 in a¶) ; }",
		"{ for (k[1] in a¶) ; }", "{ for ($1 in a¶) ; }", "{ for (x k in a¶) ; }", "{ for (k ~ x in a¶) ; }",
		"{ for (-k in a¶) ; }", "{ for (k = 1 in a¶) ; }", "{ for (¶in a) ; }", "{ for (k in a;¶)",
		"{ for (f(1) in a¶) ; }", "{ for (k in a; k in a¶) ; }")
}

// In the list of a print a > is ahead of the stream, but within brackets.
func TestP7Greater(t *testing.T) {
	for _, c := range []struct{ program, text string }{
		{"{ print 1 > 2 }", "{ print 1 > 2; } "},
		{"{ print (1 > 2) }", "{ print (1 > 2); } "},
		{"{ print (1 > 2) > 3 }", "{ print (1 > 2) > 3; } "},
		{"{ print a[1 > 2], f(1 > 2), length(1 > 2), $(1 > 2) > 3 } function f(x) { }", "function f(x) { } { print a[(1 > 2)], f((1 > 2)), length((1 > 2)), $(1 > 2) > 3; } "},
		{"{ print ((1) > 2) (1), 2 > 3 }", "{ print ((1 > 2) 1), 2 > 3; } "},
		{"{ print x = 1 > 2 }", "{ print (x = 1) > 2; } "},
		{"{ print x ? y : z > 2 }", "{ print (x ? y : z) > 2; } "},
		{"{ print x || y && !z > 2 }", "{ print (x || (y && (!z))) > 2; } "},
		{"{ print x ~ y > 2 }", "{ print (x ~ y) > 2; } "},
		{"{ print 1 in a > 2 }", "{ print (1 in a) > 2; } "},
		{"{ print 1 >= 2, 1 < 2 > 3 }", "{ print (1 >= 2), (1 < 2) > 3; } "},
		{"{ print 1 > (2 > 3) }", "{ print 1 > (2 > 3); } "},
		{"{ print 1 > 2 + 3 4 }", "{ print 1 > ((2 + 3) 4); } "},
		{"{ print 1 > a[2 > 3] }", "{ print 1 > a[(2 > 3)]; } "},
		{"{ print 1 > -x }", "{ print 1 > (-x); } "},
		{"{ print 1 > /x/ }", "{ print 1 > (/x/); } "},
		{"{ print 1 > (x = 2) }", "{ print 1 > (x = 2); } "},
		{"{ print > 2 }", "{ print > 2; } "},
		{"{ print (x) > 2; x > 3; exit 1 > 2 }", "{ print x > 2; (x > 3); exit (1 > 2); } "},
		{"1 > 2 { while (1 > 2) x = 1 > 2 }", "(1 > 2) { while ((1 > 2)) { (x = (1 > 2)); } } "},
		{"{ if (x) print 1 > 2; else y = 1 > 2 }", "{ if (x) { print 1 > 2; } else { (y = (1 > 2)); } } "},
	} {
		checkWritten(t, c.program, c.text)
	}
	checkRefused(t, glean.ErrForm,
		"{ print 1 > 2 ¶> 3 }", "{ print 1, 2 > 3¶, 4 }", "{ print x ? y ¶> z : 1 }", "{ print > ¶}",
		"{ print > ¶> 1 }", "{ print 1 > ¶; }", "{ print 1 > x ¶= 2 }", "{ print 1 > x ¶? y : z }",
		"{ print 1 > x ¶|| y }", "{ print 1 > x ¶~ y }", "{ print 1 > x ¶in a }", "{ print 1 > x ¶< y }",
		"{ print (1¶, 2) }", "{ print (1)¶) }", "{ print 1, ¶}", "{ print ¶, 1 }", "{ print (1 > 2 ¶> 3) }",
		"{ print 1 < 2 ¶< 3 }", "{ print > 1¶, 2 }", "1 > 2 ¶> 3;", "{ print 1 >= ¶> 2 }", "{ print > ¶!= 2 }", "{ print ¶>= 2 }")
}

func TestP7Expressions(t *testing.T) {
	checkRefused(t, glean.ErrForm,
		"{ 1 ¶= 2 }", `{ "a" ¶= 2 }`, "{ /a/ ¶= 2 }", "{ -x ¶= 2 }", "{ !x ¶= 2 }", "{ x + y ¶= 2 }",
		"{ 1 + x ¶+= 2 }", "{ x y ¶-= 2 }", "{ x < y ¶*= 2 }", "{ x ~ y ¶/= 2 }", "{ x in a ¶%= 2 }",
		"{ x && y ¶= 2 }", "{ x || y ¶= 2 }", "{ f(1) ¶= 2 }", "{ length(1) ¶= 2 }", "{ (x = 1) ¶= 2 }",
		"{ (x y) ¶= 2 }", "{ x = y + z ¶= 2 }", "{ (1) ¶= 2 }", "{ (x ? y : z) ¶= 2 }", "{ x ? 1 : 2 ¶= 3 }",
		"{ x ~ 1 ¶~ 2 }", "{ x !~ 1 ¶!~ 2 }", "{ x < 1 ¶< 2 }", "{ x == 1 ¶!= 2 }", "{ x <= 1 ¶>= 2 }",
		"{ x in a ¶~ 1 }", "{ x in a ¶< 1 }", "{ x in a ¶+ 1 }", "{ x in a ¶b }", "{ x in ¶1 }", "{ x in ¶(a) }",
		"{ x in ¶a(1) }", "{ x in a¶[1] }", "{ x in ¶length }", "{ x in ¶}", "{ x ? ¶: 1 }", "{ x ? 1 ¶}",
		"{ x ? 1 : ¶}", "{ x ? 1¶, 2 : 3 }", "{ x ¶: 1 }", "{ x || ¶}", "{ x && ¶|| y }", "{ x ~ ¶}",
		"{ x < ¶= 1 }",
		"{ x + ¶}", "{ x * ¶* y }", "{ x % ¶% y }", "{ x ¶!y }", "{ x ¶! y }", "{ - ¶}", "{ ! ¶}", "{ + ¶; }",
		"{ ¶* x }", "{ ¶< x }", "{ $ ¶}", "{ $¶-1 }", "{ $¶!x }", "{ $ ¶; }", "{ x[¶] }", "{ x[1 ¶}", "{ x[1,¶] }",
		"{ x[¶, 1] }",
		"{ x[1¶; }", "{ (x)¶[1] }", "{ x[1]¶[2] }", "{ 1¶[2] }", "{ f(1)¶[2] }", "{ (¶) }", "{ (1 ¶}",
		"{ (1¶, 2) in a }", "{ (1¶] }", "{ f(¶, 1) }", "{ f(1,¶) }", "{ f(1¶; }", "{ f(1¶] }", "{ length ¶}",
		"{ length ¶1 }", "{ length¶; }",
		"{ length(¶, }", "{ x = ¶}", "{ x += ¶= 1 }", "{ x ¶, y }", "{ x ¶] }", "{ x ~ /a/ /b/ ¶}", "{ (x /(¶/) }", "{ x = ¶= 1 }")
	checkTaken(t,
		"{ x = 1 }", "{ (x) = 1 }", "{ ((x)) += 1 }", "{ a[1] -= 1 }", "{ (a[1, 2]) *= 1 }", "{ $1 /= 1 }",
		"{ ($x) %= 1 }", "{ $$x = 1 }", "{ $a[1] = 1 }", "{ $(x) = 1 }", "{ $length(x) = 1 }", "{ $\"1\" = 1 }",
		"{ $/a/ = 1 }",
		"{ x ? y : z = 1 }", "{ x ? y = 1 : z }", "{ x = y ? z : x = 1 }", "{ x = y = z = 1 }",
		"{ ($1) = (x) = 1 }", "{ x + (y = 1) }", "{ a[x = 1] = 2 }", "{ !(x = 1) }",
		"{ - - x; !-+x; 1 - -1; 1 !~ 2; 1 != 2 }")
}

// A program is refused for its form first, wherever that fault stands.
func TestP7FormAheadOfUse(t *testing.T) {
	checkRefused(t, glean.ErrForm,
		"{ return } ¶;", "{ break; NR[1] = 2; f() } function f(x, x¶", "{ next } END { next ¶",
		"function NR() { } ¶@", "{ x = 1; x[1] = 2¶")
	checkRefused(t, glean.ErrForm, "¶} @", "{ 1 ¶= @ }", "{ ¶) \"a }", "{ x } ¶; /(/")
}
