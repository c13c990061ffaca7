package glean_test

import (
	"math"
	"slices"
	"strings"
	"testing"

	"glean/glean"
)

const (
	maxInput = 400
	maxFuel  = 2000
)

// An outcome is what Run answers, but for the place.
type outcome struct {
	streams []glean.Stream
	code    int
	e       glean.Errno
}

func runOf(t *testing.T, program, input string, fuel int) outcome {
	t.Helper()
	streams, code, e, place := glean.Run(program, input, fuel)
	if e != glean.ErrForm && e != glean.ErrUse && place != 0 {
		t.Errorf("P11: Run(%q, %q, %d): the error %d at %d", program, input, fuel, e, place)
	}
	return outcome{streams, code, e}
}

// mainStream makes the list of a main stream alone.
func mainStream(text string) []glean.Stream { return []glean.Stream{{Name: "", Text: text}} }

func checkOutcome(t *testing.T, promise, program, input string, fuel int, want outcome) {
	t.Helper()
	got := runOf(t, program, input, fuel)
	if !slices.Equal(got.streams, want.streams) || got.code != want.code || got.e != want.e {
		t.Errorf("%s: Run(%q, %q, %d) = %q, %d, %d, want %q, %d, %d", promise, program, input, fuel,
			got.streams, got.code, got.e, want.streams, want.code, want.e)
	}
}

// A runCase is a program and what it is to put out to the main stream alone.
type runCase struct{ program, want string }

// checkRuns holds programs to what they put out, with the code 0 and OK.
func checkRuns(t *testing.T, promise, input string, cases ...runCase) {
	t.Helper()
	for _, c := range cases {
		checkOutcome(t, promise, c.program, input, maxFuel, outcome{mainStream(c.want), 0, glean.OK})
	}
}

// checkFails holds programs to what they put out ahead of an error.
func checkFails(t *testing.T, promise, input string, e glean.Errno, cases ...runCase) {
	t.Helper()
	for _, c := range cases {
		checkOutcome(t, promise, c.program, input, maxFuel, outcome{mainStream(c.want), 0, e})
	}
}

// A valueCase is an expression and what a print of it is to put out.
type valueCase struct{ expr, want string }

// checkValues holds expressions to their texts, each in a BEGIN behind some
// statements.
func checkValues(t *testing.T, promise, ahead string, cases ...valueCase) {
	t.Helper()
	for _, c := range cases {
		checkRuns(t, promise, "", runCase{"BEGIN { " + ahead + " print (" + c.expr + ") }", c.want + "\n"})
	}
}

// The document's examples of runs.
func TestExamplesOfRuns(t *testing.T) {
	checkRuns(t, "Examples", "b 2\na 1\nb 3", runCase{`{ a[$1] += $2 } END { for (k in a) print k, a[k] }`, "a 1\nb 5\n"})
	checkRuns(t, "Examples", "a", runCase{`{ $3 = "c"; print; print NF }`, "a  c\n3\n"})
	checkRuns(t, "Examples", "abc", runCase{`{ gsub(/b*/, "-"); print }`, "-a-c-\n"})
	checkFails(t, "Examples", "", glean.ErrZero, runCase{`BEGIN { print 1 / 0 }`, ""})
}

func TestP10Order(t *testing.T) {
	checkRuns(t, "P10", "1\n2\n",
		runCase{`END { print "e" } { print } BEGIN { print "b" } END { print "f" } { print "-" } BEGIN { print "c" }`, "b\nc\n1\n-\n2\n-\ne\nf\n"},
		runCase{`END { print NR }`, "2\n"},
		runCase{`BEGIN { print NR }`, "0\n"},
		runCase{``, ""},
	)
	checkRuns(t, "P10", "",
		runCase{`END { print "e" } { print } BEGIN { print "b" }`, "b\ne\n"},
		runCase{`{ print }`, ""},
	)
}

func TestP10Long(t *testing.T) {
	for _, c := range []struct {
		program, input string
		fuel           int
		e              glean.Errno
		place          int
	}{
		{"", strings.Repeat("x", maxInput), 9, glean.OK, 0},
		{"", strings.Repeat("x", maxInput+1), 9, glean.ErrLong, 0},
		{"", strings.Repeat("\n", 1<<24), 9, glean.ErrLong, 0},
		{"", "", 0, glean.OK, 0},
		{"", "", maxFuel, glean.OK, 0},
		{"", "", maxFuel + 1, glean.ErrLong, 0},
		{"", "", -1, glean.ErrLong, 0},
		{"", "", math.MinInt, glean.ErrLong, 0},
		{"", "", math.MaxInt, glean.ErrLong, 0},
		{strings.Repeat(" ", maxProgram), "", 9, glean.OK, 0},
		{strings.Repeat(" ", maxProgram+1), "", 9, glean.ErrLong, 0},
		{strings.Repeat("(", maxProgram+1), "", 9, glean.ErrLong, 0},
		{" (", strings.Repeat("x", maxInput+1), 9, glean.ErrLong, 0},
		{" (", "", -1, glean.ErrLong, 0},
		{" f();", "", maxFuel + 1, glean.ErrLong, 0},
		{" (", strings.Repeat("x", maxInput), maxFuel, glean.ErrForm, 2},
		{" f();", "", 0, glean.ErrUse, 1},
	} {
		streams, code, e, place := glean.Run(c.program, c.input, c.fuel)
		if e != c.e || place != c.place || code != 0 {
			t.Errorf("P10: Run(%.20q, %d bytes, %d): %d, %d, %d", c.program, len(c.input), c.fuel, code, e, place)
		}
		if e != glean.OK && (streams == nil || len(streams) != 0) {
			t.Errorf("P1: with the error %d Run answers the streams %q", e, streams)
		}
	}
}

// A program that Print refuses is not run at all, not even what is ahead of
// the fault.
func TestP10Refused(t *testing.T) {
	for _, program := range []string{
		"BEGIN { print 1 } {", "BEGIN { print 1 } @", "BEGIN { print 1; print 1x }", "BEGIN { print 1 } ;", "BEGIN { print /(/ }",
		"BEGIN { print 1; f() }", "BEGIN { print 1; return }", "BEGIN { print 1 } END { next }", "BEGIN { print x; x[1] }", "BEGIN { length() }",
		"{ x = 1 = 2 }", "{ f(1) }", "function f(f) { }",
	} {
		_, wantE, wantPlace := glean.Print(program)
		streams, code, e, place := glean.Run(program, "a\n", 9)
		if wantE == glean.OK || len(streams) != 0 || code != 0 || e != wantE || place != wantPlace {
			t.Errorf("P10: Run(%q) = %q, %d, %d, %d, want the error %d at %d", program, streams, code, e, place, wantE, wantPlace)
		}
	}
}

func TestP11Streams(t *testing.T) {
	for _, c := range []struct {
		program string
		want    []glean.Stream
	}{
		{`BEGIN { }`, []glean.Stream{{"", ""}}},
		{`BEGIN { print 1 }`, []glean.Stream{{"", "1\n"}}},
		{`BEGIN { print 1 > "f" }`, []glean.Stream{{"", ""}, {"f", "1\n"}}},
		{`BEGIN { print 1 > "g"; print 2 > "f"; print 3; print 4 > "g" }`, []glean.Stream{{"", "3\n"}, {"g", "1\n4\n"}, {"f", "2\n"}}},
		{`BEGIN { print 1 > "" ; print 2 > x; print 3 }`, []glean.Stream{{"", "1\n2\n3\n"}}},
		{`BEGIN { print 1 > 7; print 2 > "7"; print 3 > "07" }`, []glean.Stream{{"", ""}, {"7", "1\n2\n"}, {"07", "3\n"}}},
		{`BEGIN { print 1 > " "; print 2 > "\n" }`, []glean.Stream{{"", ""}, {" ", "1\n"}, {"\n", "2\n"}}},
		{`{ print NR > $1 } END { print "end" > "b" }`, []glean.Stream{{"", ""}, {"b", "1\n3\nend\n"}, {"a", "2\n"}}},
		{`{ print > $0 $1 }`, []glean.Stream{{"", ""}, {"bb", "b\nb\n"}, {"aa", "a\n"}}},
		// What is put out may be the empty text.
		{`BEGIN { ORS = ""; print "" > "g"; print 1 > "f"; print 2 > "g" } END { print x > "h" }`, []glean.Stream{{"", ""}, {"g", "2"}, {"f", "1"}, {"h", ""}}},
	} {
		checkOutcome(t, "P11", c.program, "b\na\nb", maxFuel, outcome{c.want, 0, glean.OK})
	}
}

func TestP11ErrorsKeepWhatWasPutOut(t *testing.T) {
	streams := []glean.Stream{{"", "1\n"}, {"f", "2\n"}}
	for _, c := range []struct {
		end string
		e   glean.Errno
	}{
		{`while (1) ;`, glean.ErrFuel},
		{`x = 1 / 0`, glean.ErrZero},
		{`x = $41`, glean.ErrField},
		{`x = 1 ~ "("`, glean.ErrRegex},
		{`while (1) x = x "a"`, glean.ErrText},
		{`f()`, glean.ErrDeep},
		{`sprintf("%")`, glean.ErrFormat},
		{`while (1) print "0123456789" > "g"`, glean.ErrOut},
	} {
		program := `function f() { f() } BEGIN { print 1; print 2 > "f"; ` + c.end + `; print 3 } END { print 4 }`
		got := runOf(t, program, "a", maxFuel)
		if len(got.streams) < 2 || !slices.Equal(got.streams[:2], streams) || got.code != 0 || got.e != c.e {
			t.Errorf("P11: Run(%q) = %.40q, %d, %d", program, got.streams, got.code, got.e)
		}
	}
	// An error puts the code away that an exit has told.
	checkFails(t, "P11", "a", glean.ErrZero,
		runCase{`{ print 1; exit 3 } END { print 2; print 1 / 0; print 3 }`, "1\n2\n"},
		runCase{`END { print 1; exit 1 / 0 }`, "1\n"},
		runCase{`{ print 1; print 1 / 0 } END { print 2 }`, "1\n"},
		runCase{`BEGIN { print 1 / 0 } { print } END { print 2 }`, ""},
	)
}

// checkSteps holds a program to the number of its steps.
func checkSteps(t *testing.T, program, input string, steps int) {
	t.Helper()
	if got := runOf(t, program, input, steps); got.e != glean.OK {
		t.Errorf("P12: Run(%q, %q, %d): the error %d", program, input, steps, got.e)
	}
	for fuel := range steps {
		if got := runOf(t, program, input, fuel); got.e != glean.ErrFuel {
			t.Errorf("P12: Run(%q, %q, %d): the error %d", program, input, fuel, got.e)
		}
	}
}

func TestP12Statements(t *testing.T) {
	for _, c := range []struct {
		body  string
		steps int
	}{
		{``, 0}, {`;`, 0}, {`;;;`, 0}, {`{ }`, 0}, {`{ ; { ; } }`, 0},
		{`x`, 1}, {`x = 1`, 1}, {`x = y = z`, 1}, {`x; y`, 2}, {`{ x; { y } } ;`, 2},
		{`print`, 1}, {`print x, y > "f"`, 1}, {`delete a`, 1}, {`delete a[1]`, 1},
		{`exit`, 1}, {`exit 1`, 1}, {`exit; x`, 1},
		{`if (1) ;`, 1}, {`if (0) x`, 1}, {`if (1) x`, 2}, {`if (1) { x; y }`, 3}, {`if (0) x; else { y; z }`, 3},
		{`if (0) x; else ;`, 1}, {`if (1) if (1) x`, 3}, {`if (0) x; else if (0) y; else z`, 3}, {`if (x = 1) ;`, 1},
		{`while (0) ;`, 2}, {`while (0) x`, 2}, {`while (x < 1) x += 1`, 4}, {`while (x < 3) x += 1`, 8},
		{`while (1) break`, 3}, {`while ((x += 1) < 3) ;`, 4}, {`while ((x += 1) < 3) continue`, 6},
		{`while ((x += 1) < 3) { continue; y }`, 6},
		{`for (;;) break`, 3}, {`for (; 0; ) ;`, 2}, {`for (x = 1; 0; x = 2) y`, 2}, {`for (; x < 2; x += 1) ;`, 4},
		{`for (; x < 2; x += 1) y`, 6}, {`for (; x < 2; ) x += 1`, 6}, {`for (x = 0; ; x += 1) if (x == 2) break`, 8},
		{`for (; x < 2; x += 1) continue`, 6}, {`for (x in a; 0; ) ;`, 2},
		{`for (k in a) ;`, 1}, {`for (k in a) x`, 1}, {`a[1]; for (k in a) ;`, 3}, {`a[1]; a[2]; for (k in a) ;`, 5},
		{`a[1]; a[2]; for (k in a) x`, 7}, {`a[1]; a[2]; for (k in a) break`, 5}, {`a[1]; a[2]; for (k in a) continue`, 7},
		{`f()`, 1}, {`x = f() + f()`, 1}, {`g()`, 2}, {`g() g()`, 3}, {`h()`, 2}, {`if (h()) x`, 3}, {`while (h()) break`, 4},
		{`for (; g(); ) ;`, 3}, {`print g() > g()`, 3}, {`exit g()`, 2}, {`a[g()]`, 2}, {`1 && 0 && g()`, 1}, {`1 ? 2 : g()`, 1},
	} {
		functions := "function f() { ; { } } function g() { x } function h() { return 1; x } "
		checkSteps(t, functions+"BEGIN { "+c.body+" }", "", c.steps)
		checkSteps(t, functions+"END { "+c.body+" }", "", c.steps)
	}
}

func TestP12Records(t *testing.T) {
	for _, c := range []struct {
		program, input string
		steps          int
	}{
		{``, "", 0}, {``, "a", 1}, {``, "a\nb\n", 2}, {``, "\n\n\n", 3},
		{`BEGIN { } END { }`, "a\nb", 2}, {`{ }`, "a\nb", 2}, {`{ ; }`, "a\nb", 2},
		{`{ x }`, "a\nb", 4}, {`1;`, "a\nb", 4}, {`0;`, "a\nb", 2}, {`x = 1, y = 1 { }`, "a\nb", 2}, {`/b/;`, "a\nb", 3},
		{`{ next; x }`, "a\nb", 4}, {`{ next } { x }`, "a\nb", 4}, {`{ exit }`, "a\nb", 2}, {`{ exit } END { x }`, "a\nb", 3},
		{`BEGIN { exit } { x }`, "a\nb", 1}, {`BEGIN { exit } END { x; exit; x }`, "a\nb", 3},
	} {
		checkSteps(t, c.program, c.input, c.steps)
	}
}

// Ahead of a step the fuel is asked for, and only then what the step does
// can fail.
func TestP12Ahead(t *testing.T) {
	for _, c := range []struct {
		program, input string
		ahead          int
		e              glean.Errno
	}{
		{`BEGIN { print 1 / 0 }`, "", 0, glean.ErrZero},
		{`BEGIN { if (1 / 0) ; }`, "", 0, glean.ErrZero},
		{`BEGIN { while (1 / 0) ; }`, "", 1, glean.ErrZero},
		{`BEGIN { for (1 / 0; ; ) ; }`, "", 0, glean.ErrZero},
		{`BEGIN { for (; 1 / 0; ) ; }`, "", 1, glean.ErrZero},
		{`BEGIN { for (; ; 1 / 0) ; }`, "", 1, glean.ErrZero},
		{`BEGIN { for (; ; 1 / 0) x }`, "", 2, glean.ErrZero},
		{`BEGIN { a[""]; a[1]; for (k in a) x = 1 / k }`, "", 4, glean.ErrZero},
		{`BEGIN { exit 1 / 0 }`, "", 0, glean.ErrZero},
		{`BEGIN { FS = "((" }`, "a", 1, glean.ErrRegex},
		{``, strings.Repeat("x ", 41), 0, glean.ErrField},
		{`1 / 0;`, "a", 0, glean.ErrZero},
		{`BEGIN { while (1) print "0123456789" }`, "", 2 * 364, glean.ErrOut},
	} {
		for fuel := range c.ahead + 5 {
			want := c.e
			if fuel <= c.ahead {
				want = glean.ErrFuel
			}
			if got := runOf(t, c.program, c.input, fuel); got.e != want {
				t.Errorf("P12: Run(%q, %q, %d): the error %d, want %d", c.program, c.input, fuel, got.e, want)
			}
		}
	}
}

func TestP12WhatIsPutOutAheadOfTheEnd(t *testing.T) {
	program := `{ print } END { ; x; { print "end" } }`
	for fuel, text := range []string{"", "", "1\n", "1\n", "1\n2\n", "1\n2\n"} {
		checkOutcome(t, "P12", program, "1\n2\n", fuel, outcome{mainStream(text), 0, glean.ErrFuel})
	}
	checkOutcome(t, "P12", program, "1\n2\n", 6, outcome{mainStream("1\n2\nend\n"), 0, glean.OK})
}
