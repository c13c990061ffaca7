package glean_test

import (
	"strings"
	"testing"

	"glean/glean"
)

func TestP17AtFirst(t *testing.T) {
	checkRuns(t, "P17", "",
		runCase{`BEGIN { print "<" FS ">" OFS ">" ORS ">" NR ">" NF ">" RSTART ">" RLENGTH ">" x ">" }`, "< > >\n>0>0>0>-1>>\n"},
		runCase{`BEGIN { print (x == 0), (x == ""), !x, x + 1, -x, length(x), x x "|" }`, "1 1 1 1 0 0 |\n"},
		runCase{`BEGIN { print (NR == ""), (NF == ""), (RSTART == ""), (NR < RLENGTH), (RLENGTH < -10) }`, "0 0 0 0 0\n"},
		runCase{`BEGIN { print (1 in a), ("" in a), (x in a); for (k in a) print "no" }`, "0 0 0\n"},
	)
	// Nothing yet is neither the text "" nor the number 0.
	checkRuns(t, "P17", "", runCase{`BEGIN { y = ""; z = 0; print (x == y), (x == z), (y == z), (x < 1), (x < "a"), (x < -1) }`, "1 1 0 1 1 0\n"})
}

func TestP17Reckoning(t *testing.T) {
	checkValues(t, "P17", "",
		valueCase{"1 + 2", "3"}, valueCase{"1 - 2", "-1"}, valueCase{"6 * 7", "42"},
		valueCase{"7 / 2", "3"}, valueCase{"-7 / 2", "-3"}, valueCase{"7 / -2", "-3"}, valueCase{"-7 / -2", "3"},
		valueCase{"7 % 3", "1"}, valueCase{"-7 % 3", "-1"}, valueCase{"7 % -3", "1"}, valueCase{"-7 % -3", "-1"}, valueCase{"6 % 3", "0"},
		valueCase{"0 / 5", "0"}, valueCase{"0 % 5", "0"}, valueCase{"1 / 2", "0"}, valueCase{"-1 / 2", "0"},
		valueCase{"8 - 4 - 2", "2"}, valueCase{"8 / 4 / 2", "1"}, valueCase{"2 + 3 * 4", "14"}, valueCase{"(2 + 3) * 4", "20"},
		valueCase{`"3x" + "4"`, "7"}, valueCase{`" -3 4" * 2`, "-6"}, valueCase{`"x3" + 1`, "1"}, valueCase{`"" + 1`, "1"}, valueCase{`"+5" + 1`, "6"},
		valueCase{`"--5" + 1`, "1"}, valueCase{`"- 5" + 1`, "1"}, valueCase{`"1e3" + 0`, "1"}, valueCase{`"0x10" + 0`, "0"}, valueCase{"\"\\n\\t 8\" + 0", "8"},
		valueCase{"x + 1", "1"}, valueCase{"x * 5", "0"},
		valueCase{"-5", "-5"}, valueCase{"- -5", "5"}, valueCase{"+5", "5"}, valueCase{`-"5x"`, "-5"}, valueCase{`+"5x"`, "5"}, valueCase{`+"x"`, "0"}, valueCase{"-x", "0"}, valueCase{"+x", "0"},
		valueCase{`"007"`, "007"}, valueCase{`+"007"`, "7"}, valueCase{"007", "7"},
	)
}

// great is 2 to the power of 63, less 1; least is what comes behind it.
const great = "great = 922337203685477580 * 10 + 7; least = great + 1;"

func TestP17WrapsAround(t *testing.T) {
	checkValues(t, "P17", great,
		valueCase{"great", "9223372036854775807"}, valueCase{"least", "-9223372036854775808"},
		valueCase{"great + great", "-2"}, valueCase{"least - 1", "9223372036854775807"}, valueCase{"least + least", "0"},
		valueCase{"-least", "-9223372036854775808"}, valueCase{"-great", "-9223372036854775807"}, valueCase{"great * 2", "-2"},
		valueCase{"least * -1", "-9223372036854775808"}, valueCase{"least * least", "0"}, valueCase{"great * great", "1"},
		valueCase{"least / -1", "-9223372036854775808"}, valueCase{"least % -1", "0"}, valueCase{"least / 2", "-4611686018427387904"},
		valueCase{"least % 10", "-8"}, valueCase{"great % 10", "7"},
		valueCase{"great < least", "0"}, valueCase{"great > -1", "1"}, valueCase{"least < 0", "1"},
		valueCase{`"9223372036854775808" + 0`, "-9223372036854775808"}, valueCase{`"18446744073709551617" + 0`, "1"},
	)
}

func TestP17DivisionByZero(t *testing.T) {
	checkFails(t, "P17", "a 0", glean.ErrZero,
		runCase{`{ print 1; print 1 / 0 }`, "1\n"}, runCase{`{ print 1; print 1 % 0 }`, "1\n"},
		runCase{`{ print 1; print 0 / 0 }`, "1\n"}, runCase{`{ print 1; print 0 % x }`, "1\n"},
		runCase{`{ print 1; print 1 / "" }`, "1\n"}, runCase{`{ print 1; print 1 / "x" }`, "1\n"}, runCase{`{ print 1; print 1 % $2 }`, "1\n"},
		runCase{`{ print 1; x = 5; x /= 0 }`, "1\n"}, runCase{`{ print 1; x = 5; x %= 0 }`, "1\n"}, runCase{`{ print 1; $1 /= $2 }`, "1\n"},
		runCase{`{ print 1; x = 1 / (1 - 1) }`, "1\n"}, runCase{`{ print 1; print "a" 1 / 0 }`, "1\n"},
	)
}

func TestP17Truth(t *testing.T) {
	checkValues(t, "P17", `$0 = "0 00 1 x +0 -1 0x"; z = $8;`,
		valueCase{"!0", "1"}, valueCase{"!1", "0"}, valueCase{"!-1", "0"}, valueCase{`!""`, "1"}, valueCase{`!"0"`, "0"}, valueCase{`!"a"`, "0"}, valueCase{`!" "`, "0"},
		valueCase{"!x", "1"}, valueCase{"!!5", "1"}, valueCase{"!!0", "0"},
		valueCase{"!$1", "1"}, valueCase{"!$2", "1"}, valueCase{"!$3", "0"}, valueCase{"!$4", "0"}, valueCase{"!$5", "1"}, valueCase{"!$6", "0"}, valueCase{"!$7", "0"}, valueCase{"!z", "1"},
		valueCase{`!($1 "")`, "0"}, valueCase{"!+$4", "1"}, valueCase{"!$0", "0"},
		valueCase{"5 && 7", "1"}, valueCase{"5 && 0", "0"}, valueCase{"0 && 7", "0"}, valueCase{"0 && 0", "0"},
		valueCase{"5 || 0", "1"}, valueCase{"0 || 7", "1"}, valueCase{"0 || 0", "0"}, valueCase{"5 || 7", "1"},
		valueCase{`"0" && "a"`, "1"}, valueCase{`"" || x`, "0"}, valueCase{"$1 || $2", "0"}, valueCase{"$3 && $4", "1"},
		valueCase{"1 ? 2 : 3", "2"}, valueCase{"0 ? 2 : 3", "3"}, valueCase{`"0" ? 2 : 3`, "2"}, valueCase{"$1 ? 2 : 3", "3"}, valueCase{"x ? 2 : 3", "3"},
		valueCase{`(1 ? "a" : 2) "b"`, "ab"}, valueCase{`length(0 ? 2 : "abc")`, "3"},
	)
}

func TestP17Comparisons(t *testing.T) {
	signs := []string{"<", "<=", "==", "!=", ">=", ">"}
	for _, c := range []struct{ left, right, order string }{
		{"1", "2", "<"}, {"2", "10", "<"}, {"-2", "-10", ">"}, {"7", "007", "="}, {"0", "-0", "="},
		{`"2"`, `"10"`, ">"}, {`"2"`, "10", ">"}, {"2", `"10"`, ">"}, {`"a"`, `"a"`, "="}, {`"a"`, `"ab"`, "<"}, {`"ab"`, `"b"`, "<"},
		{`""`, `"a"`, "<"}, {`"A"`, `"a"`, "<"}, {`"Z"`, `"a"`, "<"}, {"\"a\x7f\"", "\"a\x80\"", "<"}, {"\"\xc3\"", `"z"`, ">"}, {`" "`, `""`, ">"},
		{"x", "0", "="}, {"x", `""`, "="}, {"x", "1", "<"}, {"x", "-1", ">"}, {"x", `"0"`, "<"}, {"x", "y", "="},
		{"$1", "10", "="}, {"$1", "9", ">"}, {"$1", `"9"`, "<"}, {"$1", `"10"`, "="}, {"$1", "$2", "="}, {"$2", `"10"`, "<"}, {"$2", "$3", ">"}, {"$3", "9", "="},
		{"$4", "9", ">"}, {"$4", "$1", ">"}, {"$4", `"9x"`, "="}, {"$9", "0", "="}, {"$9", `""`, "="}, {"$9", "$3", "<"}, {"$1", "x", ">"}, {"$4", "x", ">"},
		{`$1 ""`, "9", "<"}, {"$1 + 0", "9", ">"}, {"$5", "5", "="}, {"$5", `"5"`, "<"}, {"$6", "-5", "="},
		{"12", `"12"`, "="}, {"012", `"012"`, ">"}, {"-1", `"-1"`, "="}, {"1 == 1", "1", "="},
	} {
		holds := map[string]string{"<": "1 1 0 1 0 0", "=": "0 1 1 0 1 0", ">": "0 0 0 1 1 1"}[c.order]
		var list []string
		for _, sign := range signs {
			list = append(list, "(("+c.left+") "+sign+" ("+c.right+"))")
		}
		program := `{ print ` + strings.Join(list, ", ") + ` }`
		checkRuns(t, "P17", "10 010 9 9x +5 -5", runCase{program, holds + "\n"})
	}
}

func TestP17WorksOutNoMoreThanNeeded(t *testing.T) {
	checkRuns(t, "P17", "",
		runCase{`BEGIN { y = 0 && (x = 1); print x y }`, "0\n"},
		runCase{`BEGIN { y = 1 && (x = 2); print x y }`, "21\n"},
		runCase{`BEGIN { y = 1 || (x = 1); print x y }`, "1\n"},
		runCase{`BEGIN { y = 0 || (x = 2); print x y }`, "21\n"},
		runCase{`BEGIN { y = 1 ? 5 : (x = 1); print x y }`, "5\n"},
		runCase{`BEGIN { y = 0 ? (x = 1) : 5; print x y }`, "5\n"},
		runCase{`BEGIN { y = 0 && 1 / 0; print y, 1 || 1 / 0, 1 ? 2 : 1 / 0, 0 ? 1 / 0 : 3 }`, "0 1 2 3\n"},
		runCase{`BEGIN { y = 0 && (a = 1) || (b = 1) || (c = 1); print a "|" b "|" c "|" y }`, "|1||1\n"},
		runCase{`BEGIN { print 0 && z[1]; print 1 in z }`, "0\n0\n"},
	)
}

// noting is a program's beginning: l answers its second argument and notes its
// first one.
const noting = `function l(name, v) { log = log name; return v } `

func TestP17LeftToRight(t *testing.T) {
	for _, c := range []struct{ expr, want string }{
		{`l("a", 1) + l("b", 2) * l("c", 3)`, "abc"}, {`l("a", 1) / l("b", 2) - l("c", 3)`, "abc"}, {`l("a", 1) % l("b", 2)`, "ab"},
		{`l("a", 1) < l("b", 2)`, "ab"}, {`l("a", 1) == l("b", 2)`, "ab"}, {`l("a", 1) ~ l("b", 2)`, "ab"}, {`l("a", 1) !~ l("b", 2)`, "ab"},
		{`l("a", 1) l("b", 2) l("c", 3)`, "abc"}, {`l("a", 1) && l("b", 0) && l("c", 3)`, "ab"}, {`l("a", 0) || l("b", 2) || l("c", 3)`, "ab"},
		{`l("a", 1) ? l("b", 2) : l("c", 3)`, "ab"}, {`l("a", 0) ? l("b", 2) : l("c", 3)`, "ac"},
		{`z[l("a", 1), l("b", 2)] = l("c", 3)`, "abc"}, {`z[l("a", 1)] += l("b", 2)`, "ab"}, {`$l("a", 1) = l("b", 2)`, "ab"}, {`$l("a", 1) -= l("b", 2)`, "ab"},
		{`z[l("a", 1)] = z[l("b", 2)] = l("c", 3)`, "abc"}, {`l("a", 1) in z`, "a"},
		{`substr(l("a", 1), l("b", 2), l("c", 3))`, "abc"}, {`index(l("a", 1), l("b", 2))`, "ab"}, {`sprintf(l("a", 1), l("b", 2), l("c", 3))`, "abc"},
		{`match(l("a", 1), l("b", 2))`, "ab"}, {`split(l("a", 1), z, l("b", 2))`, "ab"}, {`sub(l("a", 1), l("b", 2), $l("c", 3))`, "abc"},
		{`gsub(l("a", 1), l("b", 2), z[l("c", 3)])`, "abc"}, {`l(l("a", "c"), l("b", 2))`, "abc"},
	} {
		checkRuns(t, "P17", "", runCase{noting + `BEGIN { x = ` + c.expr + `; print log }`, c.want + "\n"})
	}
	// What is on the left is taken ahead of what the right side does to it.
	checkRuns(t, "P17", "3 4",
		runCase{`{ x = 1; print x + (x = 5), x }`, "6 5\n"},
		runCase{`{ x = 1; print x (x = 5), x }`, "15 5\n"},
		runCase{`{ x = 1; print (x < (x = 5)), ((x = 7) < x) }`, "1 0\n"},
		runCase{`{ print $1 ($1 = 9) $1, $0 }`, "399 9 4\n"},
		runCase{`{ print $0 ($0 = "x y") $2 }`, "3 4x yy\n"},
		runCase{`{ x = "a"; print x ~ (x = "b"), x }`, "0 b\n"},
	)
}

func TestP17Joining(t *testing.T) {
	checkValues(t, "P17", `$0 = " 07 x";`,
		valueCase{`"a" "b"`, "ab"}, valueCase{`"a" 1`, "a1"}, valueCase{`1 2`, "12"}, valueCase{`1 2 + 1`, "13"}, valueCase{`(1 2) + 1`, "13"}, valueCase{`-1 2`, "-12"},
		valueCase{`x "a" x`, "a"}, valueCase{`x x`, ""}, valueCase{`$1 $2`, "07x"}, valueCase{`1 (-1)`, "1-1"}, valueCase{`007 "a"`, "7a"},
		valueCase{`("1" 0) < 9`, "1"}, valueCase{`(1 0) == 10`, "1"}, valueCase{`(1 0) == "10"`, "1"}, valueCase{`(x x) == 0`, "0"}, valueCase{`($1 x) == 7`, "0"},
	)
	full := strings.Repeat("x", maxText)
	checkRuns(t, "P17", "", runCase{`BEGIN { x = "` + full + `"; y = x ""; y = "" x; print length(x), length(y) }`, "500 500\n"})
	checkFails(t, "P20", "", glean.ErrText,
		runCase{`BEGIN { x = "` + full + `"; print 1; y = x 1; print 2 }`, "1\n"},
		runCase{`BEGIN { x = "` + full + `"; print 1; y = 1 x; print 2 }`, "1\n"},
		runCase{`BEGIN { x = "` + full + `1"; print 1; y = x ""; print 2 }`, "1\n"},
	)
	// Both are worked out ahead of the error.
	checkFails(t, "P20", "", glean.ErrZero, runCase{`BEGIN { x = "` + full + `"; y = x (1 / 0) }`, ""})
}

func TestP17BarePatterns(t *testing.T) {
	checkRuns(t, "P17", "b1\n10",
		runCase{`{ print /b/, /1/, /q/, //, !/b/, -/1/, /1/ + /1/ }`, "1 1 0 1 0 -1 2\n0 1 0 1 1 -1 2\n"},
		runCase{`{ x = /b/; print x, x ~ /b/ }`, "1 0\n0 0\n"},
		runCase{`{ print /b/ ? "y" : "n", /b/ && /1/, /b/ "-" }`, "y 1 1-\nn 0 0-\n"},
		runCase{`{ print length(/b/), substr(/b/, 1), toupper(/b/), index(/b/, 1), sprintf("%s", /b/) }`, "1 1 1 1 1\n1 0 0 0 0\n"},
		runCase{`{ $0 = "zz"; print /b/, /z/ }`, "0 1\n0 1\n"},
		runCase{`{ $1 = "zz"; print /b/, /z/ }`, "0 1\n0 1\n"},
		runCase{`function f(p) { return p } { print f(/b/) }`, "1\n0\n"},
		runCase{`{ a[/b/]; for (k in a) print k; delete a }`, "1\n0\n"},
		runCase{`{ print (/b/ in a); a[1] }`, "0\n0\n"},
		runCase{`{ print $/b/ }`, "b1\n10\n"},
		// On the left of ~ it is worth 1 or 0, and so are sums of it on the right.
		runCase{`{ print /b/ ~ 1, /b/ ~ 0, /b/ ~ /1/, "1" ~ -/q/, "0" ~ /q/ + 0 }`, "1 0 1 0 1\n0 1 0 0 1\n"},
	)
	checkRuns(t, "P17", "x b", runCase{`{ print /b/, /^b/, /x b/, /x$/ }`, "1 0 1 0\n"})
	checkRuns(t, "P17", "", runCase{`BEGIN { print /^$/, /a/ } END { print /^$/ }`, "1 0\n1\n"})
}

func TestP17Matching(t *testing.T) {
	checkValues(t, "P17", `p = "^a"; $0 = "b";`,
		valueCase{`"abc" ~ /b/`, "1"}, valueCase{`"abc" ~ /q/`, "0"}, valueCase{`"abc" !~ /b/`, "0"}, valueCase{`"abc" !~ /q/`, "1"},
		valueCase{`"abc" ~ (/b/)`, "1"}, valueCase{`"abc" !~ ((/b/))`, "0"},
		valueCase{`"abc" ~ "b"`, "1"}, valueCase{`"abc" ~ p`, "1"}, valueCase{`"ba" ~ p`, "0"}, valueCase{`"abc" ~ p "b"`, "1"}, valueCase{`"abc" ~ ""`, "1"}, valueCase{`"abc" ~ x`, "1"},
		valueCase{`123 ~ 2`, "1"}, valueCase{`123 ~ 4`, "0"}, valueCase{`x ~ "^$"`, "1"}, valueCase{`"a" ~ "."`, "1"}, valueCase{`"a" ~ "\\."`, "0"}, valueCase{`"a.b" ~ /\./`, "1"},
		valueCase{`"a/b" ~ /\//`, "1"}, valueCase{`"a/b" ~ "/"`, "1"}, valueCase{`"a\nb" ~ "a.b"`, "1"}, valueCase{`-1 ~ /-/`, "1"}, valueCase{`"" ~ /b/`, "0"},
		valueCase{`"ab" ~ "a" == 1`, "0"}, valueCase{`("ab" ~ "a") == 1`, "1"},
		// An or of two patterns is worked out, and is no pattern itself.
		valueCase{`"1" ~ (/b/ || /q/)`, "1"}, valueCase{`"b" ~ (1 ? /b/ : /q/)`, "0"}, valueCase{`"b" ~ (y = /b/)`, "0"},
	)
	checkFails(t, "P17", "", glean.ErrRegex,
		runCase{`BEGIN { print 1; print "a" ~ "(" }`, "1\n"}, runCase{`BEGIN { print 1; print "a" !~ "*" }`, "1\n"}, runCase{`BEGIN { print 1; x = "[b-a]"; print "a" ~ x }`, "1\n"},
		runCase{`BEGIN { print 1; $0 = "a|"; print "a" ~ $1 }`, "1\n"}, runCase{`BEGIN { print 1; print match("a", "(") }`, "1\n"}, runCase{`BEGIN { print 1; print sub("(", "a") }`, "1\n"},
		runCase{`BEGIN { print 1; print gsub("a|", "a") }`, "1\n"}, runCase{`BEGIN { print 1; print split("a", z, "((") }`, "1\n"}, runCase{`BEGIN { print 1; print split("", z, "((") }`, "1\n"},
	)
}

// A bare pattern is the pattern itself where the own calls ask for one, and
// only there.
func TestP17PatternsAsArguments(t *testing.T) {
	checkRuns(t, "P17", "abc",
		runCase{`{ print match("xab", /a/), match("xab", (/a/)), match("xab", "a"), match("1", /a/ + 0) }`, "2 2 2 1\n"},
		runCase{`{ print match(/b/, 1), match(/q/, 1) }`, "1 0\n"},
		runCase{`{ x = "xax"; print sub(/a/, "b", x), x; print sub((/x/), "y", x), x; print sub("x", /b/, x), x }`, "1 xbx\n1 ybx\n1 yb1\n"},
		runCase{`{ x = "aa"; print gsub(/a/, "b", x), x; print gsub("b", /q/, x), x }`, "2 bb\n2 00\n"},
		runCase{`{ print split("x1y", z, /1/), z[1], z[2]; print split("x1y", z, (/1/)), z[2]; print split(/b/, z, "q"), z[1] }`, "2 x y\n2 y\n1 1\n"},
	)
}

func TestP17Storing(t *testing.T) {
	checkRuns(t, "P17", "3 4",
		runCase{`{ x = 5; x += 2; print x; x -= 3; print x; x *= 6; print x; x /= 5; print x; x %= 3; print x }`, "7\n4\n24\n4\n1\n"},
		runCase{`{ x = "5a"; print x; x += 0; print x; print y += 1, y; print z -= "2x", z }`, "5a\n5\n1 1\n-2 -2\n"},
		runCase{`{ x = y = z = 4; print x y z; x = y += 1; print x y z; x += y -= z; print x y z }`, "444\n554\n614\n"},
		runCase{`{ (x) = 1; ((y)) = 2; ($1) = 5; (a[1]) = 6; print x y $0 a[1] }`, "125 46\n"},
		runCase{`{ a["k"] = 3; a["k"] *= 4; print a["k"]; a["l"] += 1; print a["l"] }`, "12\n1\n"},
		// A value is stored as what it is.
		runCase{`{ x = $1; y = "3"; z = 3; print (x < 10), (y < 10), (z < 10) }`, "1 0 1\n"},
		runCase{`{ x = u; print (x == 0), (x == ""); x = ""; print (x == 0) }`, "1 1\n0\n"},
		runCase{`{ x = $1 ""; y = $1 + 0; a[1] = $1; print (x < 10), (y < 10), (a[1] < 10) }`, "0 1 1\n"},
	)
	// The value is the right side's, wherever it is stored.
	checkRuns(t, "P17", "3 4",
		runCase{`{ x = $1 = "010"; print (x == 10), ($1 == 10), x, $1 }`, "0 1 010 010\n"},
		runCase{`{ x = $1 = u; print (x == 0), ($1 == 0) }`, "1 0\n"},
		runCase{`{ print NF = "1x", NF; print ($0 = 5 6) + 1, NF }`, "1x 1\n57 1\n"},
		runCase{`{ x = $0 = 7; print (x < 10), x $1 }`, "1 77\n"},
		runCase{`{ print $1 += 4; print $1 = "a b", NF, $0 }`, "7\na b 2 a b 4\n"},
		runCase{`{ print NR = "x", NR; print NF += 1, NF }`, "x x\n3 3\n"},
	)
}

// First the place is found, then the right side is worked out, then what
// lies there is taken.
func TestP17OrderOfStoring(t *testing.T) {
	checkRuns(t, "P17", "3 4",
		runCase{`{ i = 1; a[i] = i = 2; print a[1], a[2] "|" }`, "2 |\n"},
		runCase{`{ i = 1; $i = i = 2; print }`, "2 4\n"},
		runCase{`{ $(i = 2) = i; print; a[i = 7] = i; print a[7] }`, "3 2\n7\n"},
		runCase{`{ x = 1; x += x = 5; print x }`, "10\n"},
		runCase{`{ a[1] = 1; a[1] += a[1] = 5; print a[1] }`, "10\n"},
		runCase{`{ $1 += $1 = 5; print }`, "10 4\n"},
		runCase{`{ x = 3; x -= (x = 10) - 1; print x }`, "1\n"},
		runCase{`{ $3 = NF; print; $5 = $(NF = 2); print }`, "3 4 2\n3 4   4\n"},
		runCase{`{ $4 = ($0 = "a"); print; print NF }`, "a   a\n4\n"},
		runCase{`{ a[1] = 1 in a; print a[1]; b[1] += 1 in b; print b[1] }`, "0\n0\n"},
		runCase{`{ NF = ($5 = "x") ? 3 : 0; print $0 "|" }`, "3 4 |\n"},
	)
	checkFails(t, "P17", "3 4", glean.ErrField,
		runCase{`function f() { print "right"; return 1 } { $41 = f() }`, ""},
		runCase{`function f() { print "right"; return 1 } { $(-1) += f() }`, ""},
		runCase{`{ $41 = 1 / 0 }`, ""},
		runCase{`function f() { print "right"; return 41 } { NF = f() }`, "right\n"},
	)
	checkFails(t, "P17", "3 4", glean.ErrZero,
		runCase{`{ $1 = 1 / 0; print }`, ""},
		runCase{`{ NF = 41 + 1 / 0 }`, ""},
	)
}
