package glean_test

import (
	"strings"
	"testing"

	"glean/glean"
)

func TestP19Length(t *testing.T) {
	checkValues(t, "P19", `$0 = " 07 ";`,
		valueCase{`length("")`, "0"}, valueCase{`length("abc")`, "3"}, valueCase{`length(x)`, "0"}, valueCase{`length(-120)`, "4"}, valueCase{`length($0)`, "4"}, valueCase{`length($1)`, "2"},
		valueCase{"length(\"\xc3\xa4\\n\")", "3"}, valueCase{`length(12 34)`, "4"}, valueCase{`length(007)`, "1"}, valueCase{`length("abc") < 10`, "1"},
	)
}

func TestP19Substr(t *testing.T) {
	checkValues(t, "P19", great,
		valueCase{`substr("hello", 2)`, "ello"}, valueCase{`substr("hello", 1)`, "hello"}, valueCase{`substr("hello", 0)`, "hello"}, valueCase{`substr("hello", -7)`, "hello"},
		valueCase{`substr("hello", 5)`, "o"}, valueCase{`substr("hello", 6)`, ""}, valueCase{`substr("hello", 99)`, ""}, valueCase{`substr("hello", "2x")`, "ello"}, valueCase{`substr("hello", x)`, "hello"},
		valueCase{`substr("hello", 2, 3)`, "ell"}, valueCase{`substr("hello", 2, 0)`, ""}, valueCase{`substr("hello", 2, -1)`, ""}, valueCase{`substr("hello", 2, 99)`, "ello"},
		valueCase{`substr("hello", 0, 2)`, "h"}, valueCase{`substr("hello", -1, 3)`, "h"}, valueCase{`substr("hello", -1, 2)`, ""}, valueCase{`substr("hello", -1, 8)`, "hello"}, valueCase{`substr("hello", 0, 1)`, ""},
		valueCase{`substr("hello", 5, 1)`, "o"}, valueCase{`substr("hello", 6, 1)`, ""}, valueCase{`substr("hello", 1, "2x")`, "he"}, valueCase{`substr("hello", 1, x)`, ""},
		valueCase{`substr("", 1)`, ""}, valueCase{`substr("", 0, 5)`, ""}, valueCase{`substr(12345, 2, 3)`, "234"}, valueCase{`substr(12345, 2, 3) < 30`, "1"}, valueCase{`substr(12345, 2, 3) < 9`, "1"},
		// No number is too great to be counted with.
		valueCase{`substr("hello", great)`, ""}, valueCase{`substr("hello", least)`, "hello"}, valueCase{`substr("hello", 2, great)`, "ello"}, valueCase{`substr("hello", great, great)`, ""},
		valueCase{`substr("hello", least, great)`, ""}, valueCase{`substr("hello", least, least)`, ""}, valueCase{`substr("hello", -1, great)`, "hello"}, valueCase{`substr("hello", 2, least)`, ""},
		valueCase{`substr("hello", least, 0)`, ""}, valueCase{`substr("hello", least, 1)`, ""}, valueCase{`substr("hello", -great, great)`, ""}, valueCase{`substr("hello", 2 - great, great)`, "h"},
		valueCase{`substr("hello", 0, great)`, "hello"}, valueCase{`substr("hello", great, least)`, ""}, valueCase{`substr("hello", 0, least)`, ""},
	)
}

func TestP19Index(t *testing.T) {
	checkValues(t, "P19", "",
		valueCase{`index("hello", "l")`, "3"}, valueCase{`index("hello", "lo")`, "4"}, valueCase{`index("hello", "h")`, "1"}, valueCase{`index("hello", "hello")`, "1"},
		valueCase{`index("hello", "q")`, "0"}, valueCase{`index("hello", "hello!")`, "0"}, valueCase{`index("hello", "")`, "0"}, valueCase{`index("", "")`, "0"}, valueCase{`index("", "a")`, "0"},
		valueCase{`index(12345, 34)`, "3"}, valueCase{`index("a.b", ".")`, "2"}, valueCase{`index("aaa", "aa")`, "1"}, valueCase{`index("x", x)`, "0"}, valueCase{"index(\"\xff\\n\", \"\\n\")", "2"},
	)
}

func TestP19Letters(t *testing.T) {
	checkValues(t, "P19", "",
		valueCase{`toupper("azAZ09_{@[")`, "AZAZ09_{@["}, valueCase{`tolower("azAZ09_{@[")`, "azaz09_{@["},
		valueCase{"toupper(\"\xe4\xc4`\")", "\xe4\xc4`"}, valueCase{"tolower(\"\xe4\xc4`\")", "\xe4\xc4`"}, valueCase{`toupper("")`, ""}, valueCase{`tolower(x)`, ""}, valueCase{`toupper(12)`, "12"},
		valueCase{`toupper("bmy")`, "BMY"}, valueCase{`tolower("BMY")`, "bmy"}, valueCase{`toupper(10) < 9`, "1"}, valueCase{`tolower(10) < 9`, "1"},
	)
	checkRuns(t, "P19", "aB", runCase{`{ x = $0; print toupper(x) tolower(x) x $0 }`, "ABabaBaB\n"})
}

func TestP19Split(t *testing.T) {
	show := `function show(n, z[], i, s) { for (i = 1; i <= n; i += 1) s = s "<" z[i] ">"; return n s } `
	for _, c := range []struct{ call, want string }{
		{`split(" a  b ", z)`, "2<a><b>"}, {`split("", z)`, "0"}, {`split("   ", z)`, "0"}, {`split("a", z)`, "1<a>"}, {`split("a\nb\tc", z)`, "3<a><b><c>"},
		{`split("a,b", z, ",")`, "2<a><b>"}, {`split(",a,,b,", z, ",")`, "5<><a><><b><>"}, {`split("", z, ",")`, "0"}, {`split("a b", z, " ")`, "2<a><b>"}, {`split(" a  b", z, " ")`, "2<a><b>"},
		{`split("abc", z, "")`, "3<a><b><c>"}, {`split("abc", z, x)`, "3<a><b><c>"}, {`split("a.b", z, ".")`, "2<a><b>"}, {`split("a.b", z, "..")`, "2<><b>"}, {`split("a12b", z, "[0-9]+")`, "2<a><b>"},
		{`split(12345, z, 3)`, "2<12><45>"}, {`split("a12b", z, 12)`, "2<a><b>"}, {`split("a b", z, FS)`, "2<a><b>"},
		// By a bare pattern as by a longer separator.
		{`split("a.b", z, /./)`, "4<><><><>"}, {`split(" a  b", z, / /)`, "4<><a><><b>"}, {`split("a,b", z, /,/)`, "2<a><b>"}, {`split("abc", z, //)`, "1<abc>"}, {`split("", z, /,/)`, "0"},
		{`split("axxb", z, /x*/)`, "2<a><b>"}, {`split("a|b", z, /\|/)`, "2<a><b>"}, {`split("a b", z, (/ /))`, "2<a><b>"}, {`split("aab", z, /^a/)`, "2<><ab>"},
	} {
		checkRuns(t, "P19", "", runCase{show + `BEGIN { n = ` + c.call + `; print show(n, z) }`, c.want + "\n"})
	}
	checkRuns(t, "P19", "",
		runCase{show + `BEGIN { FS = ","; print show(split("a b,c", z), z); FS = "((" ; print split("a", z, " ") }`, "2<a b><c>\n1\n"},
		// The array has then just the pieces.
		runCase{`BEGIN { z["x"]; z[3] = 7; n = split("a b", z); for (k in z) print k, z[k]; print n }`, "1 a\n2 b\n2\n"},
		runCase{`BEGIN { z[1] = 5; n = split("", z); for (k in z) print "no"; print n }`, "0\n"},
		runCase{`BEGIN { y[1] = 5; split("a b c", z); split("p", z); print y[1], z[1], (2 in z) }`, "5 p 0\n"},
		runCase{`BEGIN { z[1] = "p q"; print split(z[1], z), z[1], z[2] }`, "2 p q\n"},
		runCase{`BEGIN { z[1] = "-"; print split("p-q", z, z[1]), z[1], z[2] }`, "2 p q\n"},
		// The pieces are as what was read.
		runCase{`BEGIN { split("10 9x 010", z); print (z[1] > 9), (z[2] > 10), (z[3] == 10), (z[1] == "10") }`, "1 1 1 1\n"},
		runCase{`BEGIN { split(" 10 ,0", z, ","); print (z[1] == 10), !z[2], z[1] }`, "1 1  10 \n"},
		runCase{`BEGIN { print split("a b", z) < 10, split("", z) "" }`, "1 0\n"},
	)
	checkFails(t, "P19", "", glean.ErrRegex,
		runCase{`BEGIN { print 1; split("a", z, "a|"); print 2 }`, "1\n"},
		runCase{`BEGIN { print 1; FS = "(("; split("a", z); print 2 }`, "1\n"},
	)
}

func TestP19Sprintf(t *testing.T) {
	checkValues(t, "P19", `$0 = "65 x";`,
		valueCase{`sprintf("%05d|%-4s|%x", -42, "ab", 255)`, "-0042|ab  |ff"}, valueCase{`sprintf("")`, ""}, valueCase{`sprintf("abc")`, "abc"}, valueCase{`sprintf("%%")`, "%"}, valueCase{`sprintf(12)`, "12"},
		valueCase{`sprintf("%d|%s|%x", 1)`, "1||0"}, valueCase{`sprintf("%d", 1, 2, 3)`, "1"}, valueCase{`sprintf("%s", x)`, ""}, valueCase{`sprintf("%d", "7x")`, "7"}, valueCase{`sprintf("%s", 007)`, "7"}, valueCase{`sprintf("%s", -5)`, "-5"},
		valueCase{`sprintf("%.2s|%5s|%-5s|", "abc", "ab", "ab")`, "ab|   ab|ab   |"}, valueCase{`sprintf("%x", -1)`, "ffffffffffffffff"}, valueCase{`sprintf("%05x", 255)`, "000ff"},
		// The values are taken themselves: a text is no numeral here.
		valueCase{`sprintf("%c", 65)`, "A"}, valueCase{`sprintf("%c", "65")`, "6"}, valueCase{`sprintf("%c", $1)`, "A"}, valueCase{`sprintf("%c", $2)`, "x"}, valueCase{`sprintf("%c", $1 "")`, "6"}, valueCase{`sprintf("%c", "")`, ""},
		valueCase{`sprintf("%c", x)`, "\x00"}, valueCase{`sprintf("%c", 256 + 66)`, "B"}, valueCase{`sprintf("%c", -190)`, "B"}, valueCase{`sprintf("%d", 10) < 9`, "1"},
		valueCase{`sprintf("%d%d%d%d%d%d%d%d%d%d%d%d", 1, 2, 3, 4, 5, 6, 7, 8, 9, 10, 11, 12)`, "123456789101112"},
	)
	checkFails(t, "P19", "", glean.ErrFormat,
		runCase{`BEGIN { print 1; print sprintf("%") }`, "1\n"}, runCase{`BEGIN { print 1; print sprintf("%q", 1) }`, "1\n"}, runCase{`BEGIN { print 1; print sprintf("%d%.2d", 1) }`, "1\n"},
	)
	full := strings.Repeat("x", maxText)
	checkRuns(t, "P19", "",
		runCase{`BEGIN { print length(sprintf("` + full + `")) }`, "500\n"},
		runCase{`BEGIN { print length(sprintf("%.0s", "` + full + `12")) }`, "0\n"},
		runCase{`BEGIN { print sprintf("` + strings.Repeat("%.0s", 126) + `ok") }`, "ok\n"},
	)
	checkFails(t, "P19", "", glean.ErrText,
		runCase{`BEGIN { print 1; print sprintf("` + full + `1") }`, "1\n"},
		runCase{`BEGIN { print 1; print sprintf("%s1", "` + full + `") }`, "1\n"},
		runCase{`BEGIN { print 1; print sprintf("%99s%99s%99s%99s%99s%6s") }`, "1\n"},
	)
	checkFails(t, "P19", "", glean.ErrFormat, runCase{`BEGIN { x = sprintf("%q%s1", "` + full + `") }`, ""})
}

func TestP19Match(t *testing.T) {
	for _, c := range []struct{ call, want string }{
		{`match("xabb", /ab+/)`, "2 2 3"}, {`match("xabb", "b")`, "3 3 1"}, {`match("xabb", /q/)`, "0 0 -1"}, {`match("xabb", "x*")`, "1 1 1"}, {`match("abb", "x*")`, "1 1 0"},
		{`match("", "")`, "1 1 0"}, {`match("", "a")`, "0 0 -1"}, {`match("abc", "$")`, "4 4 0"}, {`match("abc", x)`, "1 1 0"}, {`match(12345, 34)`, "3 3 2"}, {`match("abab", /(ab)*$/)`, "1 1 4"},
	} {
		checkRuns(t, "P19", "", runCase{`BEGIN { RSTART = 77; RLENGTH = 77; r = ` + c.call + `; print r, RSTART, RLENGTH }`, c.want + "\n"})
	}
	checkRuns(t, "P19", "xaby",
		runCase{`{ if (match($0, /[ab]+/)) print substr($0, RSTART, RLENGTH); print RSTART < 10, RLENGTH < 10 }`, "ab\n1 1\n"},
		runCase{`{ match($0, /a/); $0 ~ /y/; sub(/y/, "z"); print RSTART, RLENGTH }`, "2 1\n"},
	)
}

// A replaceCase is a call's beginning, the text it is done to, and what it
// answers and makes of it.
type replaceCase struct{ call, text, want string }

func checkReplaces(t *testing.T, cases ...replaceCase) {
	t.Helper()
	for _, c := range cases {
		checkRuns(t, "P19", "", runCase{`BEGIN { x = "` + c.text + `"; n = ` + c.call + `, x); print n, x }`, c.want + "\n"})
		checkRuns(t, "P19", c.text, runCase{`{ n = ` + c.call + `); print n, $0 }`, c.want + "\n"}, runCase{`{ a[1] = $0; n = ` + c.call + `, a[1]); print n, a[1] }`, c.want + "\n"})
	}
}

func TestP19Sub(t *testing.T) {
	checkReplaces(t,
		replaceCase{`sub(/b/, "X"`, "abcb", "1 aXcb"}, replaceCase{`sub(/q/, "X"`, "abcb", "0 abcb"}, replaceCase{`sub("b+", ""`, "abbcb", "1 acb"}, replaceCase{`sub(/x*/, "X"`, "abc", "1 Xabc"},
		replaceCase{`sub(/$/, "X"`, "abc", "1 abcX"}, replaceCase{`sub(/^/, "X"`, "abc", "1 Xabc"}, replaceCase{`sub(/.*/, "X"`, "abc", "1 X"}, replaceCase{`sub(/a|ab/, "X"`, "abc", "1 Xc"},
		replaceCase{`sub(/b/, 7`, "abc", "1 a7c"}, replaceCase{`sub(2, u`, "123", "1 13"}, replaceCase{`sub("", "X"`, "abc", "1 Xabc"},
		replaceCase{`sub(/b+/, "[&]"`, "abbc", "1 a[bb]c"}, replaceCase{`sub(/b/, "&&"`, "abc", "1 abbc"}, replaceCase{`sub(/b/, "\\&"`, "abc", "1 a&c"}, replaceCase{`sub(/b/, "\\&&\\&"`, "abc", "1 a&b&c"},
		replaceCase{`sub(/b/, "\\\\&"`, "abc", `1 a\&c`}, replaceCase{`sub(/b/, "\\"`, "abc", `1 a\c`}, replaceCase{`sub(/b/, "\\x"`, "abc", `1 a\xc`}, replaceCase{`sub(/b/, "&\\"`, "abc", `1 ab\c`},
		replaceCase{`sub(/x*/, "<&>"`, "abc", "1 <>abc"}, replaceCase{`sub(/b/, "a&"`, "bb", "1 abb"},
	)
}

func TestP19Gsub(t *testing.T) {
	checkReplaces(t,
		replaceCase{`gsub(/b/, "X"`, "abcb", "2 aXcX"}, replaceCase{`gsub(/q/, "X"`, "abcb", "0 abcb"}, replaceCase{`gsub("b+", ""`, "abbcb", "2 ac"}, replaceCase{`gsub(/a/, "aa"`, "aba", "2 aabaa"},
		replaceCase{`gsub(/b*/, "-"`, "abc", "3 -a-c-"}, replaceCase{`gsub(/x*/, "-"`, "abc", "4 -a-b-c-"}, replaceCase{`gsub(//, "-"`, "ab", "3 -a-b-"}, replaceCase{`gsub(/b*/, "-"`, "abb", "2 -a-"},
		replaceCase{`gsub(/b*/, "-"`, "bb", "1 -"}, replaceCase{`gsub(/b*/, "-"`, "bbab", "2 -a-"}, replaceCase{`gsub(/b*/, "-"`, "aab", "3 -a-a-"}, replaceCase{`gsub(/b*/, "<&>"`, "abbc", "3 <>a<bb>c<>"},
		replaceCase{`gsub(/$/, "X"`, "abc", "1 abcX"}, replaceCase{`gsub(/^/, "X"`, "abc", "1 Xabc"}, replaceCase{`gsub(/^a/, "X"`, "aaa", "1 Xaa"}, replaceCase{`gsub(/a$/, "X"`, "aaa", "1 aaX"},
		replaceCase{`gsub(/^|a/, "X"`, "aba", "2 XbX"}, replaceCase{`gsub(/c|$/, "X"`, "abc", "1 abX"}, replaceCase{`gsub(/.*/, "X"`, "abc", "1 X"}, replaceCase{`gsub(/./, "&&"`, "abc", "3 aabbcc"},
		replaceCase{`gsub(/aa/, "X"`, "aaaaa", "2 XXa"}, replaceCase{`gsub(/a|ab/, "X"`, "abaab", "3 XXX"}, replaceCase{`gsub(/a/, "\\&"`, "aba", "2 &b&"}, replaceCase{`gsub(/(ab)?/, "-"`, "abxab", "2 -x-"},
	)
}

func TestP19PlacesOfReplacing(t *testing.T) {
	checkRuns(t, "P19", " a  b",
		runCase{`{ print sub(/b/, "c d"), NF, $3, $0 "|" }`, "1 3 d  a  c d|\n"},
		runCase{`{ print sub(/b/, "c", $2), $0 }`, "1 a c\n"},
		runCase{`{ print gsub(/q/, "c", $1), $0; print sub(/q/, "c"), $0 }`, "0  a  b\n0  a  b\n"},
		runCase{`{ print sub(/q/, "c", $5), NF; print sub(/$/, "c", $5), NF, $0 }`, "0 2\n1 5 a b   c\n"},
		runCase{`{ print sub(/2/, "1", NF), NF, $0 }`, "1 1 a\n"},
		runCase{`{ print gsub(/q/, "1", NF), $0; print sub(/$/, "", NF), $0 }`, "0  a  b\n1 a b\n"},
		runCase{`{ print sub(/ /, ",", FS), FS; $0 = "x,y"; print NF }`, "1 ,\n2\n"},
		runCase{`{ print gsub(/x*/, "-", u), u; print sub(/q/, "-", v), (v == 0) }`, "1 -\n0 1\n"},
		runCase{`function f(p) { gsub(/a/, "b", p); return p } { x = "aa"; print f(x), x }`, "bb aa\n"},
		runCase{`{ print sub(/a/, "b", ($1)), ($1); print sub(/q/, "r", a["k"]), ("k" in a) }`, "1 b\n0 1\n"},
		// What is stored is a text, but a field is as what was read.
		runCase{`{ x = 10; sub(/1/, "1", x); print (x < 9); $1 = 10; sub(/1/, "1", $1); print ($1 < 9) }`, "1\n0\n"},
		runCase{`{ x = 10; sub(/q/, "1", x); print (x < 9), sub(/1/, "", x) < 9 }`, "0 1\n"},
		// The place is worked out last.
		runCase{`{ i = 1; print sub(/./, i = 2, $i), $0 }`, "1 a 2\n"},
		runCase{`{ x = "p"; print sub(/./, x = "q", x), x; y = "p"; print sub(y, y = "pp", y), y }`, "1 q\n1 ppp\n"},
	)
	checkFails(t, "P19", "a b", glean.ErrField, runCase{`{ print 1; sub(/a/, "b", $41) }`, "1\n"}, runCase{`{ print 1; sub(/2/, "41", NF) }`, "1\n"})
	checkFails(t, "P19", "a b", glean.ErrRegex, runCase{`{ print 1; sub("(", "b", $41) }`, "1\n"}, runCase{`{ print 1; gsub("(", 1 / 0) }`, "1\n"})
}

func TestP19ReplacingTooLong(t *testing.T) {
	half, full := strings.Repeat("x", 250), strings.Repeat("x", maxText)
	checkRuns(t, "P19", "",
		runCase{`BEGIN { x = "` + half + `"; print gsub(/x/, "&&", x), length(x) }`, "250 500\n"},
		runCase{`BEGIN { x = "` + half + `"; print sub(/x*/, "&&", x), length(x) }`, "1 500\n"},
		runCase{`BEGIN { x = "` + full + `123"; print gsub(/x/, "", x), x }`, "500 123\n"},
		runCase{`BEGIN { x = "` + full + `123"; print sub(/1../, "", x), length(x) }`, "1 500\n"},
		runCase{`BEGIN { x = "` + full + `123"; print gsub(/4/, "", x), sub(/4/, "", x), length(x) }`, "0 0 503\n"},
	)
	checkFails(t, "P19", "", glean.ErrText,
		runCase{`BEGIN { x = "` + half + `"; print 1; gsub(/x/, "&&&", x); print 2 }`, "1\n"},
		runCase{`BEGIN { x = "` + half + `y"; print 1; gsub(/x/, "&&", x); print 2 }`, "1\n"},
		runCase{`BEGIN { x = "` + half + `"; print 1; sub(/x*/, "&&1", x); print 2 }`, "1\n"},
		runCase{`BEGIN { x = "y` + half + `"; print 1; sub(/x+/, "&&", x); print 2 }`, "1\n"},
		runCase{`BEGIN { x = "` + full + `"; print 1; sub(/$/, "y", x); print 2 }`, "1\n"},
		runCase{`BEGIN { x = "` + full + `"; print 1; gsub(/$/, "y", x); print 2 }`, "1\n"},
		runCase{`BEGIN { x = "` + full + `12"; print 1; sub(/1/, "", x); print 2 }`, "1\n"},
		runCase{`BEGIN { x = "` + half + `"; print 1; gsub(//, "12", x); print 2 }`, "1\n"},
	)
}
