package glean_test

import (
	"strings"
	"testing"

	"glean/glean"
)

func TestP7KindOfNames(t *testing.T) {
	checkTaken(t,
		"{ x = 1; print x }",
		"{ a[1]; print a[2]; delete a; delete a[1]; 1 in a; for (k in a) print k; split(1, a) }",
		"{ x; y[1] } function f(x[], y) { x[1] = y }",
		"{ NR = NF FS OFS ORS RSTART RLENGTH }", "function f(a[]) { for (a_ in a) delete a } { f(b); b[1] }",
		"{ f(b); b[1] } function f(a[]) { }", "{ split(x, a); a[x] }", "{ f(x); x = 1 } function f(y) { }")
	checkRefused(t, glean.ErrUse,
		"{ x = 1; ¶x[1] = 2 }", "{ x[1] = 2; ¶x = 1 }", "{ x; 1 in ¶x }", "{ 1 in x; ¶x }", "{ x; delete ¶x }",
		"{ delete x; ¶x }", "{ x; delete ¶x[1] }", "{ delete x[1]; ¶x }", "{ x; for (k in ¶x) ; }",
		"{ for (k in x) ; ¶x }",
		"{ x; split(1, ¶x) }", "{ split(1, x); ¶x }", "{ x; f(¶x) } function f(a[]) { }",
		"{ f(x); ¶x } function f(a[]) { }", "{ x[1]; f(¶x) } function f(a) { }",
		"{ f(x); ¶x[1] } function f(a) { }",
		"{ k[1]; for (¶k in a) ; }", "{ for (k in a) ; ¶k[1] }", "{ for (k in ¶k) ; }", "{ x in ¶x }", "{ x[¶x] }",
		"{ x[1, ¶x] = 1 }", "{ x = ¶x[1] }", "{ x[1] = ¶x }", "{ x[1]; x[2] += 1 + ¶x }",
		"{ a[1]; print ¶a }", "{ a[1]; print > ¶a }", "{ a[1]; exit ¶a }", "{ a[1]; $¶a }", "{ a[1]; !¶a }",
		"{ a[1]; ¶a ? 1 : 2 }", "{ a[1]; 1 ? ¶a : 2 }", "{ a[1]; 1 ? 2 : ¶a }", "{ a[1]; 1 ¶a }",
		"{ a[1]; ¶a in b }",
		"{ a[1]; 1 ~ ¶a }", "{ a[1]; if (¶a) ; }", "{ a[1]; if (1) ¶a }", "{ a[1]; if (1) ; else ¶a }",
		"{ a[1]; while (¶a) ; }", "{ a[1]; while (1) ¶a }", "{ a[1]; for (¶a;;) ; }", "{ a[1]; for (;¶a;) ; }",
		"{ a[1]; for (;;¶a) ; }",
		"{ a[1]; for (;;) ¶a }", "{ a[1]; for (k in a) ¶a }", "{ a[1]; length(¶a) }", "{ a[1]; split(¶a, a) }",
		"{ a[1]; split(1, a, ¶a) }", "{ a[1]; sub(1, 2, ¶a) }", "{ a[1]; delete a[¶a] }", "{ a[1]; { ¶a } }",
		"{ a[1]; 1 + ¶a }",
		"{ a[1] } ¶a;", "{ a[1] } 1, ¶a { }", "{ a[1] } END { ¶a }", "BEGIN { a } { ¶a[1] }",
		"{ a } function f() { ¶a[1] }", "function f() { a[1] } { ¶a }",
		"function f() { a } function g() { ¶a[1] }", "function f() { a[1]; return ¶a }")
}

// The first use is the first in the text, though functions are written out
// ahead of the rules and may be called ahead of their places.
func TestP7FirstUseInTheText(t *testing.T) {
	checkRefused(t, glean.ErrUse,
		"{ x = 1 } function f() { ¶x[1] } { x }", "{ x[1] } function f() { ¶x } { x[1] }",
		"{ f(x) } function f(a[]) { } { ¶x = 1 }", "{ x = 1 } { f(¶x) } function f(a[]) { }",
		"{ ¶f(1) } function f(a[]) { }",
		"BEGIN { x } function f(x[]) { x[1]; g(x) } function g(y[]) { ¶x[1] } END { x[1] }",
		"END { x } BEGIN { ¶x[1] }", "{ f(g(x), x) } function f(a, b) { ¶x[1] } function g(a) { }")
}

func TestP7TheSevenAreVariables(t *testing.T) {
	for _, name := range []string{"NR", "NF", "FS", "OFS", "ORS", "RSTART", "RLENGTH"} {
		checkTaken(t, "{ "+name+" = 1 }", "{ print "+name+" }")
		checkRefused(t, glean.ErrUse, "{ ¶"+name+"[1] }", "{ 1 in ¶"+name+" }", "{ delete ¶"+name+" }", "{ split(1, ¶"+name+") }", "function f(a[]) { } { f(¶"+name+") }",
			"function ¶"+name+"() { }", "function f(¶"+name+") { }", "function f(¶"+name+"[]) { }",
			"function f(x, ¶"+name+") { }", "{ for (k in ¶"+name+") ; }", "{ ¶"+name+"() }")
	}
	checkTaken(t, "function nr() { } { Nr[1] }", "function f(RS) { } { SUBSEP[1] }")
}

func TestP7FunctionNames(t *testing.T) {
	checkTaken(t,
		"function f() { } function g() { } { f(); g() }",
		"{ f(g()) } function f(x) { return g() } function g() { return f() }")
	checkRefused(t, glean.ErrUse,
		"function f() { } function ¶f() { }",
		"function f() { } { } function g() { } function ¶f(x) { } function f() { }", "function f() { } { ¶f = 1 }",
		"{ ¶f = 1 } function f() { }", "{ print ¶f } function f() { }",
		"{ ¶f[1] } function f() { }", "{ 1 in ¶f } function f() { }", "{ delete ¶f } function f() { }",
		"{ for (¶f in a) ; } function f() { }", "{ for (k in ¶f) ; } function f() { }",
		"{ split(1, ¶f) } function f() { }",
		"{ f(¶f) } function f(x) { }", "{ f(¶f) } function f(x[]) { }", "{ ¶f (1) } function f(x) { }",
		"function f() { ¶f }", "function f() { return ¶f + 1 }", "function f() { ¶g = 1 } function g() { }")
}

func TestP7Parameters(t *testing.T) {
	checkTaken(t,
		"function f(x, y[]) { x = y[x] } function g(y, x[]) { y = x[y] }",
		"{ x[1]; y = 1 } function f(x, y[]) { x = y[1] }",
		"function f(a[]) { g(a); split(1, a); delete a; 1 in a } function g(b[]) { }",
		"function f(a[], k) { for (k in a) return k }", "function f(x) { return f(x) } { x[1] }")
	checkRefused(t, glean.ErrUse,
		"function f(x, ¶x) { }", "function f(x, ¶x[]) { }", "function f(x[], y, ¶x, x) { }", "function f(¶f) { }",
		"function f(¶g) { } function g() { }", "function g() { } function f(x, ¶g[]) { }",
		"function f(x) { ¶x[1] }", "function f(x[]) { ¶x }", "function f(x[]) { ¶x = 1 }",
		"function f(x) { 1 in ¶x }", "function f(x) { delete ¶x }", "function f(x) { for (k in ¶x) ; }",
		"function f(x[]) { for (¶x in a) ; }",
		"function f(x) { split(1, ¶x) }", "function f(x) { g(¶x) } function g(y[]) { }",
		"function f(x[]) { g(¶x) } function g(y) { }", "function f(x[]) { return ¶x }",
		"function f(x[]) { x[¶x] }", "function f(x) { ¶x() }")
	checkRefused(t, glean.ErrUse, "function f(x) { x = 1 } { x[1]; ¶x }", "function f(x[]) { x[1] } { x; ¶x[1] }")
}

func TestP7Calls(t *testing.T) {
	checkTaken(t,
		"function f(x, y) { } { f(); f(1); f(1, 2) }", "function f(a[], b[]) { } { f(); f(c); f(c, d) }",
		"function f(a[]) { } { f((c)) }")
	checkRefused(t, glean.ErrUse,
		"{ ¶f() }", "{ ¶f(1) }", "{ ¶x( ) }", "function f() { } { ¶f(1) }", "function f(x) { } { ¶f(1, 2) }",
		"{ ¶f(1, 2) } function f(x) { }", "function f() { ¶g() }", "function f(x) { } { f(¶f(1, 2)) }",
		"function f(x) { } { f(¶g(1)) }",
		"function f(a[]) { } { ¶f(1) }", "function f(a[]) { } { ¶f(a[1]) }", "function f(a[]) { } { ¶f($1) }",
		"function f(a[]) { } { ¶f(a b) }", "function f(a[]) { } { ¶f(f(a)) }", "function f(a[]) { } { ¶f(x = 1) }",
		"function f(a[]) { } { ¶f(\"a\") }", "function f(a[]) { } { ¶f(/a/) }",
		"function f(x, a[]) { } { f(1); ¶f(1, 2) }", "function f(a[], b[]) { } { ¶f(c, 1) }",
		"function f(a[]) { } { ¶f(c, d) }", "{ ¶f(1) } function f() { } function f(x) { }",
		"{ ¶F() } function f() { }")
}

func TestP7OwnCalls(t *testing.T) {
	for _, c := range []struct {
		name        string
		least, most int
	}{
		{"length", 1, 1}, {"toupper", 1, 1}, {"tolower", 1, 1}, {"index", 2, 2}, {"match", 2, 2},
		{"substr", 2, 3}, {"split", 2, 3}, {"sub", 2, 3}, {"gsub", 2, 3}, {"sprintf", 1, 13},
	} {
		for n := range 16 {
			call := c.name + "(" + strings.TrimPrefix(strings.Repeat(", x", n), ", ") + ") }"
			if c.name == "split" {
				call = strings.Replace(call, "x, x", "x, a", 1)
			}
			if c.least <= n && n <= c.most {
				checkTaken(t, "{ "+call)
			} else {
				checkRefused(t, glean.ErrUse, "{ ¶"+call, "{ y = 1 + ¶"+call)
			}
		}
	}
	checkTaken(t,
		"{ sub(1, 2, x); sub(1, 2, (x)); gsub(1, 2, a[1]); gsub(1, 2, $1); sub(/a/, 2, ((a[1, 2]))); sub(1, 2, $(x)) }",
		"{ split(1, a, 2); split(1, (a), /b/); substr(1, 2, 3) }", "{ sprintf(1, 2) }")
	checkRefused(t, glean.ErrUse,
		"{ ¶sub(1, 2, 3) }", `{ ¶gsub(1, 2, "a") }`, "{ ¶sub(1, 2, /a/) }", "{ ¶gsub(1, 2, x y) }",
		"{ ¶sub(1, 2, -x) }", "{ ¶sub(1, 2, x = 1) }", "{ ¶gsub(1, 2, x ? y : z) }", "{ ¶sub(1, 2, length(x)) }",
		"{ ¶sub(1, 2, f(x)) } function f(x) { }",
		"{ ¶sub(1, 2, x in a) }", "{ ¶split(1, 2) }", "{ ¶split(1, a[1]) }", "{ ¶split(1, $1, 2) }",
		"{ ¶split(1, a b) }", `{ ¶split(1, "a") }`, "{ ¶split(1, x = 1) }",
		"{ ¶split(1, f(a)) } function f(a[]) { }", "{ length(¶length()) }",
		"{ length(¶sub(1, 2, 3)) }", "{ sub(1, 2, a[¶toupper()]) }")
}

func TestP7Jumps(t *testing.T) {
	checkTaken(t,
		"{ while (1) break }", "{ while (1) continue }", "{ for (;;) { if (1) break; else continue } }",
		"{ for (k in a) { { break } } }", "function f() { while (1) { break; continue } }",
		"{ while (1) { for (;;) ; break } }",
		"{ next }", "1 { next }", "1, 2 { while (1) if (1) next }", "function f() { return }",
		"function f() { while (1) return 1 }", "{ exit }", "BEGIN { exit 1 } END { exit 2 }",
		"function f() { exit 3 }")
	checkRefused(t, glean.ErrUse,
		"{ ¶break }", "{ ¶continue }", "{ if (1) ¶break }", "{ while (1) ; ¶break }",
		"{ while (1) { } ¶continue }", "{ for (;;) ; ¶continue }", "{ for (k in a) ; ¶break }", "BEGIN { ¶break }",
		"function f() { ¶break }", "function f() { { ¶continue } }",
		"{ while (1) break; { ¶break } }", "{ while (1) for (;;) ; ¶break }", "BEGIN { ¶next }", "END { ¶next }",
		"BEGIN { while (1) ¶next }", "function f() { ¶next }", "{ next } END { if (1) ¶next }",
		"1 { next } function f() { ¶next }",
		"{ ¶return }", "{ ¶return 1 }", "BEGIN { ¶return }", "END { while (1) ¶return x }",
		"function f() { return } { ¶return }", "1, 2 { ¶return }")
}

// Where several things are used wrongly, the least place is told.
func TestP7LeastPlace(t *testing.T) {
	checkRefused(t, glean.ErrUse,
		"{ ¶return f() }", "{ ¶break; next; return }", "BEGIN { ¶next; break }", "{ NR = 1; ¶f(NR[1]) }",
		"{ ¶NR[f()] }", "{ ¶x(); x; x[1] }", "{ x; ¶x[1]; return } function NR() { }", "function ¶NR(x, x) { }",
		"function f(x, ¶x) { break } function f() { }",
		"{ ¶f = 1 } function f() { } function f() { }", "{ ¶break } function f(f) { }",
		"{ x[1] } function f() { ¶next } { x }", "{ x[1] } { ¶x } function f() { next }", "{ a[1]; ¶f(a) }",
		"{ ¶sub(NR[1]) }", "{ ¶split(1, NR[1]) }", "function f(a[]) { } { ¶f(g()) }",
		"{ delete ¶NR[break_()] }", "{ ¶NR = 1 } function NR() { }")
}
