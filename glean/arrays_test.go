package glean_test

import (
	"strings"
	"testing"

	"glean/glean"
)

func TestP18Keys(t *testing.T) {
	checkRuns(t, "P18", "007 7",
		runCase{`{ a[1] = "x"; print a["1"], a[01], a[0 + 1] }`, "x x x\n"},
		runCase{`{ a[7] = "x"; print a[$1] "|" a[$2], a[$1 + 0] }`, "|x x\n"},
		runCase{`{ a[""] = "x"; print a[u], ("" in a), (0 in a) }`, "x 1 0\n"},
		runCase{`{ a[1, 2] = "x"; print a["1,2"], a[1 ",2"], ("1,2" in a), a[u, u] "|"; print ("," in a) }`, "x x 1 |\n1\n"},
		runCase{`{ a["1,2", 3] = "x"; print a[1, "2,3"], a[1, 2, 3] }`, "x x\n"},
		runCase{`{ a["A"] = 1; print ("a" in a), ("A " in a), ("A" in a) }`, "0 0 1\n"},
		runCase{`{ a[-0] = 1; a[-1] = 2; print a[0], a["-1"] }`, "1 2\n"},
		runCase{`{ a[1] = "a"; b[1] = "b"; print a[1] b[1] }`, "ab\n"},
	)
}

func TestP18WhatIsThere(t *testing.T) {
	checkRuns(t, "P18", "",
		runCase{`BEGIN { print (1 in a); x = a[1]; print (1 in a), (a[1] == 0), (a[1] == "") }`, "0\n1 1 1\n"},
		runCase{`BEGIN { a[1]; print (1 in a) }`, "1\n"},
		runCase{`BEGIN { a[1] = 5; print (1 in a), (2 in a) }`, "1 0\n"},
		runCase{`BEGIN { x = 1 in a; delete a[1]; print (1 in a); for (k in a) print "no" }`, "0\n"},
		runCase{`BEGIN { if (a["x"] == "") print ("x" in a) }`, "1\n"},
		runCase{`BEGIN { a[a[1]]; print (1 in a), ("" in a) }`, "1 1\n"},
		runCase{`BEGIN { a[1] = 2 in a; print (1 in a), (2 in a), a[1] }`, "1 0 0\n"},
		runCase{`BEGIN { print (1 in b), (b[1] in a), (1 in b) }`, "0 0 1\n"},
		runCase{`BEGIN { sub(/q/, "r", a[1]); print (1 in a); length(a[2]); print (2 in a) }`, "1\n1\n"},
		runCase{`BEGIN { print 1 in a in a, (0 in a) }`, "0 0\n"},
		runCase{`BEGIN { a[0]; print 1 in a in a }`, "1\n"},
	)
}

func TestP18Delete(t *testing.T) {
	checkRuns(t, "P18", "",
		runCase{`BEGIN { a[1] = 5; a[2] = 6; delete a[1]; print (1 in a), (2 in a), a[1] "|" a[2] }`, "0 1 |6\n"},
		runCase{`BEGIN { a[1, 2] = 5; delete a[1, 2]; print ("1,2" in a) }`, "0\n"},
		runCase{`BEGIN { a[1]; a[2]; b[1] = 7; delete a; print (1 in a), (2 in a), b[1]; a[3]; for (k in a) print k }`, "0 0 7\n3\n"},
		runCase{`BEGIN { delete a; delete a[1]; delete a; print (1 in a) }`, "0\n"},
		runCase{`BEGIN { a["x"] = 1; delete a["x"]; delete a["x"]; a["x"] += 1; print a["x"] }`, "1\n"},
		runCase{`BEGIN { delete a[b[1]]; print (1 in b) }`, "1\n"},
		runCase{`BEGIN { for (i = 0; i < 9; i += 1) a[i] = i; for (i = 0; i < 9; i += 2) delete a[i]; a[4] = "x"; for (k in a) s = s k a[k]; print s }`, "11334x5577\n"},
		runCase{`BEGIN { a[1]; a[2]; a[3]; delete a[3]; delete a[1]; for (k in a) print k; delete a[2]; for (k in a) print "no" }`, "2\n"},
	)
}

func TestP18GoingThrough(t *testing.T) {
	checkRuns(t, "P18", "",
		runCase{`BEGIN { split("b 10 a 9 B 1", p); for (i = 1; i < 7; i += 1) a[p[i]]; a[""]; for (k in a) s = s "<" k ">"; print s }`, "<><1><10><9><B><a><b>\n"},
		runCase{"BEGIN { a[\"\xff\"]; a[\"a\"]; a[\"\x80\"]; a[\"a\\t\"]; a[\"ab\"]; a[\"~\"]; for (k in a) s = s k \"|\"; print s }", "a|a\t|ab|~|\x80|\xff|\n"},
		runCase{`BEGIN { a[10]; a[9]; for (k in a) print k, (k < 9), (k == 10), (k == "10"), k + 1 }`, "10 1 1 1 11\n9 0 0 0 10\n"},
		runCase{`BEGIN { a["010"]; for (k in a) print (k == 10), !k; b[0]; for (k in b) print !k }`, "0 0\n0\n"},
		runCase{`BEGIN { for (k in a) print "no"; print k "|" }`, "|\n"},
		runCase{`BEGIN { a[1]; a[2]; for (k in a) ; print k }`, "2\n"},
		runCase{`BEGIN { a[1]; for (k in a) for (l in a) for (k in a) print k l }`, "11\n"},
		runCase{`BEGIN { a["x"] = 1; a["y"] = 2; for (RSTART in a) print RSTART }`, "x\ny\n"},
	)
	// The keys are those that the array has at the beginning, whatever happens
	// to it.
	checkRuns(t, "P18", "",
		runCase{`BEGIN { a[1]; a[2]; a[3]; for (k in a) { a[k "x"]; print k } }`, "1\n2\n3\n"},
		runCase{`BEGIN { a[1]; a[2]; a[3]; for (k in a) { delete a[2]; print k, (k in a) } }`, "1 1\n2 0\n3 1\n"},
		runCase{`BEGIN { a[1]; a[2]; for (k in a) { delete a; print k, (k in a) } }`, "1 0\n2 0\n"},
		runCase{`BEGIN { a[1]; a[2]; for (k in a) { print k; k = 9 } print k }`, "1\n2\n9\n"},
		runCase{`BEGIN { a[1]; a[2]; for (k in a) { split("p q r s", a); print k } }`, "1\n2\n"},
	)
	checkRuns(t, "P18", "b 2\na 1\nb 3\n", runCase{`{ a[$1] += $2 } END { for (k in a) print k, a[k] }`, "a 1\nb 5\n"})
}

func TestP18TooLongKeys(t *testing.T) {
	full := strings.Repeat("k", maxText)
	half := strings.Repeat("k", 249)
	checkRuns(t, "P18", "",
		runCase{`BEGIN { x = "` + full + `"; a[x] = 1; for (k in a) print length(k), (x in a); delete a[x] }`, "500 1\n"},
		runCase{`BEGIN { x = "` + half + `"; a[x, x] = 1; a[x, x 1] = 1; for (k in a) print length(k) }`, "499\n500\n"},
	)
	for _, use := range []string{`a[x]`, `a[x] = 1 / 0`, `y = x in a`, `delete a[x]`, `sub(/a/, "b", a[x])`} {
		checkFails(t, "P20", "", glean.ErrText, runCase{`BEGIN { x = "` + full + `1"; print 1; ` + use + `; print 2 }`, "1\n"})
	}
	for _, use := range []string{`a[x, x 12]`, `a[x, x, 1] = 1 / 0`, `delete a[x, x, 1]`, `a[x, x 12] += 1`} {
		checkFails(t, "P20", "", glean.ErrText, runCase{`BEGIN { x = "` + half + `"; print 1; ` + use + `; print 2 }`, "1\n"})
	}
	// The key is made when all subscripts are worked out.
	checkFails(t, "P20", "", glean.ErrZero, runCase{`BEGIN { x = "` + full + `"; a[x, x, 1 / 0] }`, ""})
}
