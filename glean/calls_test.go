package glean_test

import (
	"strings"
	"testing"

	"glean/glean"
)

func TestP20Parameters(t *testing.T) {
	checkRuns(t, "P20", "",
		runCase{`function f(x) { x += 1; return x } BEGIN { x = 5; print f(x), x, f(), f("7a") }`, "6 5 1 8\n"},
		runCase{`function f(x, y) { y = x; x = 9; return y } BEGIN { print f(3), x "|" y "|" }`, "3 ||\n"},
		runCase{`function f(x) { print (x == 0), (x == ""); x = 1 } BEGIN { f(); f() }`, "1 1\n1 1\n"},
		runCase{`function f(x) { return x } BEGIN { $0 = "010"; print (f($1) == 10), (f("10") < 9), (f(10) < 9), (f(u) == 0), (f(u) == "") }`, "1 1 0 1 1\n"},
		runCase{`function f(n) { return n < 2 ? 1 : n * f(n - 1) } BEGIN { print f(5) }`, "120\n"},
		runCase{`function f(n, m) { if (n > 0) { m = n; f(n - 1); print m, n } } BEGIN { f(3) }`, "1 1\n2 2\n3 3\n"},
		runCase{`function f(a, b) { return a - b } BEGIN { a = 1; b = 2; print f(b, a), f(a) }`, "1 1\n"},
		runCase{`function f(x) { y = x } BEGIN { f(4); print y }`, "4\n"},
		runCase{`function f(k, a[]) { for (k in a) ; return k } BEGIN { k = 5; a["x"]; print f(1, a), k }`, "x 5\n"},
		runCase{`function f(x) { x = x + (x = 5) + x; return x } BEGIN { print f(1) }`, "11\n"},
		// A place that was found stays the caller's, whatever is called then.
		runCase{`function f(n, x) { x = n; x += n > 0 ? f(n - 1) : 100; return x } BEGIN { print f(3) }`, "106\n"},
	)
	checkRuns(t, "P20", "",
		runCase{`BEGIN { print f(1) } function f(x) { return g(x) + 1 } function g(x) { return x * 10 }`, "11\n"},
		runCase{`function f() { } BEGIN { f() f() }`, ""},
	)
}

func TestP20Arrays(t *testing.T) {
	checkRuns(t, "P20", "",
		runCase{`function f(a[], k) { a[k] = k k; delete a[1] } BEGIN { b[1]; f(b, 2); for (k in b) print k, b[k] }`, "2 22\n"},
		runCase{`function f(a[]) { a[1] += 1; return a[1] } BEGIN { print f(), f(), f(b), f(b), f(), b[1] }`, "1 1 1 2 1 2\n"},
		runCase{`function f(a[], b[]) { a["x"] = 1; return "x" in b } BEGIN { print f(c, c), f(d, c), f(e), f() }`, "1 1 0 0\n"},
		runCase{`function f(a[]) { g(a); return a[1] } function g(b[]) { b[1] = 7 } BEGIN { print f(c), c[1], f() }`, "7 7 7\n"},
		runCase{`function f(n, a[]) { a[n]; if (n > 0) f(n - 1); for (k in a) s = s k } BEGIN { f(3); print s }`, "0123\n"},
		runCase{`function f(n, a[]) { a[n]; if (n > 0) f(n - 1, a); else for (k in a) s = s k } BEGIN { f(3); print s }`, "0123\n"},
		runCase{`function f(a[], b[]) { b[1] = 1; g(); return (1 in a) (1 in b) (2 in b) } function g(c[]) { c[1]; c[2]; c[3] } BEGIN { print f() }`, "010\n"},
		runCase{`function f(a[]) { delete a; a["n"] } BEGIN { a["o"]; b["p"]; f(b); for (k in a) print k; for (k in b) print k }`, "o\nn\n"},
		runCase{`function f(a[]) { return split("p q", a) } BEGIN { print f(b) b[2]; print f() }`, "2q\n2\n"},
		runCase{`function f(b[], a[]) { b[1] = 1; a[1] = 2 } BEGIN { f(a, b); print a[1], b[1] }`, "1 2\n"},
		runCase{`function f(a[]) { return a[1] } BEGIN { c[1] = 3; print f((c)) }`, "3\n"},
	)
}

func TestP20Return(t *testing.T) {
	checkRuns(t, "P20", "",
		runCase{`function f() { return 3; print "no" } BEGIN { print f() }`, "3\n"},
		runCase{`function f() { return } function g() { } function h() { 5 } BEGIN { print f() "|" g() "|" h() "|", (f() == 0), (f() == ""), (g() == 0), (g() == ""), (h() == 0) }`, "||| 1 1 1 1 1\n"},
		runCase{`function f() { while (1) for (;;) { if (1) return 4 } } BEGIN { print f() }`, "4\n"},
		runCase{`function f(a[], k) { a[1]; a[2]; for (k in a) return k } BEGIN { print f() }`, "1\n"},
		runCase{`function f(x) { if (x) return 1; else return 2; return 3 } BEGIN { print f(0), f(1) }`, "2 1\n"},
		runCase{`function f(x) { { { return x } } } BEGIN { print f(0), f("") "|" }`, "0 |\n"},
		runCase{`function f(x) { return x ? f(x - 1) : "end" } BEGIN { print f(3) }`, "end\n"},
		runCase{`function f() { return g() + 1 } function g() { return 4 } BEGIN { print f() }`, "5\n"},
		runCase{`function f() { for (;;) { break; return 1 } while (x < 2) { x += 1; continue; return 2 } } BEGIN { print f() "|" x }`, "|2\n"},
	)
	checkRuns(t, "P20", "7", runCase{`function f() { return $1 } { print f() + 1, (f() < 10), ($1 = f() 1) }`, "8 1 71\n"})
}

func TestP20Depth(t *testing.T) {
	checkRuns(t, "P20", "",
		runCase{`function f(n) { return n > 1 ? f(n - 1) + 1 : 1 } BEGIN { print f(15); print f(15) }`, "15\n15\n"},
		runCase{`function f(x) { return x + 1 } BEGIN { print f(f(f(f(f(f(f(f(f(f(f(f(f(f(f(f(f(f(f(f(0)))))))))))))))))))) }`, "20\n"},
		runCase{`function f(n) { if (n > 0) f(n - 1) } BEGIN { for (i = 0; i < 20; i += 1) f(14); print i }`, "20\n"},
	)
	checkFails(t, "P20", "a", glean.ErrDeep,
		runCase{`function f(n) { print n; f(n + 1) } BEGIN { f(1) }`, "1\n2\n3\n4\n5\n6\n7\n8\n9\n10\n11\n12\n13\n14\n15\n"},
		runCase{`function f(n) { return n > 1 ? f(n - 1) + 1 : 1 } BEGIN { print f(15); print f(16) }`, "15\n"},
		runCase{`function f(n) { g(n) } function g(n) { print n; f(n + 1) } BEGIN { f(1) }`, "1\n2\n3\n4\n5\n6\n7\n"},
	)
	// The arguments are worked out ahead of the error.
	checkFails(t, "P20", "", glean.ErrZero, runCase{`function f(n) { f(n == 15 ? 1 / 0 : n + 1) } BEGIN { f(1) }`, ""})
}

func TestP20Exit(t *testing.T) {
	for _, c := range []struct {
		program, want string
		code          int
	}{
		{`function f(n) { if (n == 9) exit n; f(n + 1); print "no" } BEGIN { f(1); print "no" } { print "no" } END { print "end" }`, "end\n", 9},
		{`function f() { exit } { print; f(); print "no" } END { print NR }`, "a\n1\n", 0},
		{`function f() { exit 4 } END { x = 1 + f(); print "no" } END { print "no" }`, "", 4},
		{`function f() { exit 4 } { x[f()] = 1 } END { print length(x_) }`, "0\n", 4},
		{`function f() { exit } { exit 2 } END { f(); print "no" }`, "", 2},
		// All calls have ended then.
		{`function f(n) { if (n == 15) exit; f(n + 1) } function g(n) { return n == 15 ? "deep" : g(n + 1) } { f(1) } END { print g(1) }`, "deep\n", 0},
		{`function f(n, a[]) { a[n]; if (n == 15) exit; f(n + 1) } function g(a[]) { for (k in a) print "no"; a[1]; for (k in a) print k } { f(1) } END { g(); g() }`, "1\n1\n", 0},
	} {
		checkOutcome(t, "P20", c.program, "a\nb", maxFuel, outcome{mainStream(c.want), c.code, glean.OK})
	}
}

func TestP20Print(t *testing.T) {
	checkRuns(t, "P20", "a  b",
		runCase{`{ print; print $0; print $1, $2; print $1 $2; print "" }`, "a  b\na  b\na b\nab\n\n"},
		runCase{`{ OFS = "-"; ORS = "|"; print; print 1, 2, 3; print 1 2; print "" }`, "a  b|1-2-3|12||"},
		runCase{`{ OFS = 0; ORS = 1; print "a", "b" } END { OFS = u; ORS = u; print "c", "d" }`, "a0b1cd"},
		runCase{`{ print 1, "2", 007, x, -5, $9 }`, "1 2 7  -5 \n"},
		runCase{`{ print (1) (2), (3) }`, "12 3\n"},
		runCase{`{ print NF, NR > "" }`, "2 1\n"},
	)
	// All is worked out first.
	checkRuns(t, "P20", "a  b",
		runCase{`function f() { print "f"; return 1 } { print 0, f(), 2 }`, "f\n0 1 2\n"},
		runCase{noting + `{ print l("a", 1), l("b", 2) > l("c", ""); print log }`, "1 2\nabc\n"},
		runCase{`{ print 1, (OFS = "-"), (ORS = "|") }`, "1---||"},
		runCase{`{ print $1, ($1 = "x"), $1 }`, "a x x\n"},
		runCase{`{ print 1, 2 > substr(OFS = "-", 2); print > substr($1 = "x", 2) }`, "1-2\nx-b\n"},
	)
	checkFails(t, "P20", "", glean.ErrZero, runCase{`BEGIN { print 1; print 2, 1 / 0; }`, "1\n"}, runCase{`BEGIN { print 1; print 2 > 1 / 0 }`, "1\n"})
	long := strings.Repeat("x", maxText+1)
	checkRuns(t, "P20", "", runCase{`BEGIN { x = "` + long + `"; print x, x }`, long + " " + long + "\n"})
	checkOutcome(t, "P20", `BEGIN { print 1 > "`+long+`" }`, "", 9, outcome{[]glean.Stream{{"", ""}, {long, "1\n"}}, 0, glean.OK})
}

func TestP20Out(t *testing.T) {
	ten := strings.Repeat("0123456789", 40) // 400 bytes
	var ahead strings.Builder
	for range 9 {
		ahead.WriteString(ten + "\n")
	}
	head := `BEGIN { x = "` + ten + `"; for (i = 0; i < 9; i += 1) print x; y = substr(x, 1, 390); ` // 3609 bytes
	for _, c := range []struct {
		program string
		streams []glean.Stream
		e       glean.Errno
	}{
		{`print y }`, []glean.Stream{{"", ahead.String() + ten[:390] + "\n"}}, glean.OK},
		{`print y "" > "f" }`, []glean.Stream{{"", ahead.String()}, {"f", ten[:390] + "\n"}}, glean.OK},
		{`print y 1; print "no" }`, []glean.Stream{{"", ahead.String()}}, glean.ErrOut},
		{`print y, "" }`, []glean.Stream{{"", ahead.String()}}, glean.ErrOut},
		{`print y 1 > "f"; print "no" }`, []glean.Stream{{"", ahead.String()}}, glean.ErrOut},
		{`print y > "f"; print "" > "f" }`, []glean.Stream{{"", ahead.String()}, {"f", ten[:390] + "\n"}}, glean.ErrOut},
		{`print y; print 1 > "f" } END { print 2 }`, []glean.Stream{{"", ahead.String() + ten[:390] + "\n"}}, glean.ErrOut},
		{`print y; ORS = ""; print "" }`, []glean.Stream{{"", ahead.String() + ten[:390] + "\n"}}, glean.OK},
	} {
		checkOutcome(t, "P20", head+c.program, "", maxFuel, outcome{c.streams, 0, c.e})
	}
}
