package glean_test

import (
	"strings"
	"testing"

	"glean/glean"
)

func TestP13Records(t *testing.T) {
	for _, c := range []struct{ input, want string }{
		{"", ""},
		{"a", "1<a>"},
		{"a\n", "1<a>"},
		{"\n", "1<>"},
		{"\na", "1<>2<a>"},
		{"a\n\n", "1<a>2<>"},
		{"\n\n\n", "1<>2<>3<>"},
		{" a b \n\tc", "1< a b >2<\tc>"},
		{"a\r\nb", "1<a\r>2<b>"},
		{"\x00\xff\n\x80", "1<\x00\xff>2<\x80>"},
		{strings.Repeat("x", maxInput), "1<" + strings.Repeat("x", maxInput) + ">"},
	} {
		checkRuns(t, "P13", c.input, runCase{`BEGIN { ORS = "" } { print NR "<" $0 ">" }`, c.want})
	}
	many := strings.Repeat("\n", maxInput)
	checkRuns(t, "P13", many, runCase{`END { print NR }`, "400\n"})
}

func TestP13NumberOfTheRecord(t *testing.T) {
	checkRuns(t, "P13", "a\nb\nc",
		runCase{`{ print NR; NR = 10 }`, "1\n11\n11\n"},
		runCase{`{ print NR; NR = "7x" }`, "1\n8\n8\n"},
		runCase{`{ print NR; NR = x }`, "1\n1\n1\n"},
		runCase{`{ NR += 1; print NR }`, "2\n4\n6\n"},
		runCase{`BEGIN { NR = -2 } { print NR }`, "-1\n0\n1\n"},
		runCase{`BEGIN { NR = "" } { print NR == "1" }`, "1\n0\n0\n"},
		runCase{`BEGIN { NR = 999999999999999999 * 9 + 223372036854775816 } { print NR }`, "-9223372036854775808\n-9223372036854775807\n-9223372036854775806\n"},
	)
	// The number is one, whatever NR was made of.
	checkRuns(t, "P13", "a", runCase{`BEGIN { NR = "09" } { print (NR < 9), (NR == 10) }`, "0 1\n"})
}

// Behind the input the last record stays, and ahead of it the record is
// empty.
func TestP13AroundTheInput(t *testing.T) {
	checkRuns(t, "P13", "a b\nc d e\n",
		runCase{`BEGIN { print NF "<" $0 ">" $1 } END { print NF "<" $0 ">" $1 }`, "0<>\n3<c d e>c\n"},
		runCase{`{ $0 = "x" } END { print }`, "x\n"},
		runCase{`BEGIN { $0 = "1 2"; print NF, $2 } { print NF }`, "2 2\n2\n3\n"},
	)
}

func TestP14Conditions(t *testing.T) {
	checkRuns(t, "P14", "a\n0\n\n 00 \n-1\n+0\n0x",
		runCase{`$0;`, "a\n-1\n0x\n"},
		runCase{`1;`, "a\n0\n\n 00 \n-1\n+0\n0x\n"},
		runCase{`0;`, ""},
		runCase{`"0";`, "a\n0\n\n 00 \n-1\n+0\n0x\n"},
		runCase{`"";`, ""},
		runCase{`x;`, ""},
		runCase{`$1 "";`, "a\n0\n 00 \n-1\n+0\n0x\n"},
		runCase{`/0/;`, "0\n 00 \n+0\n0x\n"},
		runCase{`! /0/;`, "a\n\n-1\n"},
		runCase{`NR == 2 || NR == 5 { print NR }`, "2\n5\n"},
		runCase{`$0 = "z";`, "z\nz\nz\nz\nz\nz\nz\n"},
	)
}

// The rules are gone through in their order, and each sees what the ones
// ahead of it have done.
func TestP14Order(t *testing.T) {
	checkRuns(t, "P14", "a\nb",
		runCase{`{ x += 1 } x == 3 { print "three" } { x += 1; print x }`, "2\nthree\n4\n"},
		runCase{`{ $0 = "c" } /c/ { print "c" } /a/ { print "a" }`, "c\nc\n"},
		runCase{`/a/ { print 1 } /b/ { print 2 } { print 3 } /a/ { print 4 }`, "1\n3\n4\n2\n3\n"},
	)
}

func TestP14TwoConditions(t *testing.T) {
	input := "a\nb\nc\na\nd\nb\na"
	checkRuns(t, "P14", input,
		runCase{`/a/, /b/ { print NR }`, "1\n2\n4\n5\n6\n7\n"},
		runCase{`/a/, /b/;`, "a\nb\na\nd\nb\na\n"},
		runCase{`/c/, /c/ { print NR }`, "3\n"},
		runCase{`/a/, /a/ { print NR }`, "1\n4\n7\n"},
		runCase{`/b/, 0 { print NR }`, "2\n3\n4\n5\n6\n7\n"},
		runCase{`/b/, 1 { print NR }`, "2\n6\n"},
		runCase{`0, 1 { print NR }`, ""},
		runCase{`1, 1 { print NR }`, "1\n2\n3\n4\n5\n6\n7\n"},
		runCase{`NR == 2, NR == 4 { print NR } NR == 3, NR == 5 { print "-" NR }`, "2\n3\n-3\n4\n-4\n-5\n"},
	)
	// Which of the two is asked, and when.
	checkRuns(t, "P14", "a\nb\nc\nd",
		runCase{`BEGIN { ORS = "" } (x = x 1) && NR == 2, (y = y 2) && NR == 3 { print x "," y ";" } END { print x "," y }`, "11,2;11,22;111,22"},
		runCase{`NR == 1, z { print NR; if (NR == 2) z = 1 }`, "1\n2\n3\n"},
		runCase{`NR == 1, z == NR { z = 2; print NR }`, "1\n2\n"},
		runCase{`NR == 2, NR == 3 { print NR; next } { print "-" NR }`, "-1\n2\n3\n-4\n"},
	)
	// A rule that is passed over by next stays as it is.
	checkRuns(t, "P14", "a\nb\nc\nd\ne",
		runCase{`NR == 3 { next } NR == 2, NR == 3 { print NR }`, "2\n4\n5\n"},
	)
}

func TestP14Next(t *testing.T) {
	checkRuns(t, "P14", "a\nb\nc",
		runCase{`/b/ { next } { print }`, "a\nc\n"},
		runCase{`{ print; next; print "no" } { print "no" } END { print "end" }`, "a\nb\nc\nend\n"},
		runCase{`{ while (1) { if (1) { next } } } { print "no" }`, ""},
		runCase{`{ for (;;) for (;;) next } { print "no" }`, ""},
		runCase{`{ x[1]; for (k in x) next } { print "no" }`, ""},
		runCase{`{ print; if (/b/) next; print }`, "a\na\nb\nc\nc\n"},
	)
}

func TestP14Exit(t *testing.T) {
	for _, c := range []struct {
		program, want string
		code          int
	}{
		{`BEGIN { exit }`, "", 0},
		{`BEGIN { print 1; exit; print 2 } { print 3 } END { print 4 }`, "1\n4\n", 0},
		{`BEGIN { exit 7 } BEGIN { print 1 } { print 3 } END { print NR }`, "0\n", 7},
		{`{ print; exit 4; print 2 } { print 3 } END { print NR }`, "a\n1\n", 4},
		{`/b/ { exit } { print } END { print NR }`, "a\n2\n", 0},
		{`{ while (1) if (1) { exit 3 } } END { print 1 }`, "1\n", 3},
		{`{ x[1]; for (k in x) for (;;) exit 3 } END { print 1 }`, "1\n", 3},
		{`END { print 1; exit; print 2 } END { print 3 }`, "1\n", 0},
		{`END { print 1; exit 5 } END { print 3 }`, "1\n", 5},
		{`{ exit 3 } END { exit }`, "", 3},
		{`{ exit 3 } END { exit 4 }`, "", 4},
		{`{ exit 3 } END { exit 0 }`, "", 0},
		{`{ exit 3 } END { exit x }`, "", 0},
		{`BEGIN { exit 3 } END { exit }`, "", 3},
		{`{ exit } END { exit 6 }`, "", 6},
		{`{ exit 255 }`, "", 255}, {`{ exit 256 }`, "", 0}, {`{ exit 257 }`, "", 1}, {`{ exit -1 }`, "", 255}, {`{ exit -256 }`, "", 0},
		{`{ exit -257 }`, "", 255}, {`{ exit 999999999999999999 }`, "", 255}, {`{ exit "12x" }`, "", 12}, {`{ exit "x" }`, "", 0},
		{`{ exit $0 }`, "", 0}, {`{ exit x }`, "", 0}, {`{ exit 1 2 }`, "", 12}, {`{ exit 1 == 1 }`, "", 1},
	} {
		checkOutcome(t, "P14", c.program, "a\nb\nc", maxFuel, outcome{mainStream(c.want), c.code, glean.OK})
	}
	// A condition can exit too, by a call.
	for _, program := range []string{`f(3);`, `f(3), 1;`, `1, f(3);`, `BEGIN { x = f(3) }`, `{ print 1 > f(3) }`, `{ exit f(3) }`} {
		program = `function f(n) { exit n } ` + program + ` END { print "end" }`
		checkOutcome(t, "P14", program, "a\nb", maxFuel, outcome{mainStream("end\n"), 3, glean.OK})
	}
}

// fields is a program's beginning that shows the fields.
const fields = `function fields(i, s) { for (i = 1; i <= NF; i += 1) s = s "<" $i ">"; return NF s } `

func TestP15Cutting(t *testing.T) {
	for _, c := range []struct{ fs, input, want string }{
		{``, "", ""},
		{``, "\n", "0\n"},
		{``, " a \t b\t", "2<a><b>\n"},
		{``, "a,b", "1<a,b>\n"},
		{`FS = " ";`, "  a b ", "2<a><b>\n"},
		{`FS = ",";`, ",a,,b c,", "5<><a><><b c><>\n"},
		{`FS = ",";`, "\n", "0\n"},
		{`FS = ",";`, "a", "1<a>\n"},
		{`FS = "|";`, "a|b", "2<a><b>\n"},
		{`FS = "\t";`, " a\tb ", "2< a><b >\n"},
		{`FS = "(";`, "a(b", "2<a><b>\n"},
		{`FS = "\\";`, `a\b`, "2<a><b>\n"},
		{`FS = "";`, "a b", "3<a>< ><b>\n"},
		{`FS = x;`, "ab", "2<a><b>\n"},
		{`FS = 1;`, "a1b11c", "4<a><b><><c>\n"},
		{`FS = 12;`, "a12b1c", "2<a><b1c>\n"},
		{`FS = "[0-9]+";`, "a12b1c", "3<a><b><c>\n"},
		{`FS = "  ";`, "a b  c", "2<a b><c>\n"},
		{`FS = "x*";`, "axxb", "2<a><b>\n"},
		{`FS = "a|b";`, "1a2b3", "3<1><2><3>\n"},
		{`FS = "^a";`, "aab", "2<><ab>\n"},
		{`FS = NF;`, "a0b", "2<a><b>\n"},
	} {
		checkRuns(t, "P15", c.input, runCase{fields + "BEGIN { " + c.fs + " } { print fields() }", c.want})
		if c.input != "" {
			line := strings.TrimSuffix(c.input, "\n")
			quoted := strings.NewReplacer(`\`, `\\`, "\t", `\t`).Replace(line)
			checkRuns(t, "P15", "", runCase{fields + "BEGIN { " + c.fs + ` $0 = "` + quoted + `"; print fields() }`, c.want})
		}
	}
}

// FS counts at the time at which the record becomes a text.
func TestP15WhenFSCounts(t *testing.T) {
	checkRuns(t, "P15", "a,b c\nd,e f",
		runCase{fields + `{ print fields(); FS = ","; print fields() }`, "2<a,b><c>\n2<a,b><c>\n2<d><e f>\n2<d><e f>\n"},
		runCase{fields + `{ FS = ","; $0 = $0; print fields() }`, "2<a><b c>\n2<d><e f>\n"},
		runCase{fields + `{ FS = ","; $1 = $1; print fields() }`, "2<a,b><c>\n2<d><e f>\n"},
		runCase{fields + `{ $0 = $0 (FS = ","); print fields() }`, "3<a><b c><>\n3<d><e f><>\n"},
		runCase{fields + `{ FS = "(("; print fields(); FS = " " }`, "2<a,b><c>\n2<d,e><f>\n"},
	)
}

func TestP15Regex(t *testing.T) {
	checkFails(t, "P15", "a\nb", glean.ErrRegex,
		runCase{`BEGIN { FS = "((" ; print 1 } { print }`, "1\n"},
		runCase{`{ print; FS = "a|" } END { print 2 }`, "a\n"},
		runCase{`BEGIN { FS = "**"; print 1; $0 = "a"; print 2 }`, "1\n"},
		runCase{`BEGIN { FS = "[["; print 1; sub(/$/, "a"); print 2 }`, "1\n"},
	)
	checkRuns(t, "P15", "", runCase{`BEGIN { FS = "((" } END { print 1 }`, "1\n"})
}

func TestP15Number(t *testing.T) {
	forty, more := strings.Repeat("x ", 40), strings.Repeat("x ", 41)
	checkRuns(t, "P15", forty, runCase{`{ print NF, $40, $NF }`, "40 x x\n"})
	checkRuns(t, "P15", more, runCase{`BEGIN { FS = "," } { print NF }`, "1\n"})
	checkFails(t, "P15", "a\n"+more, glean.ErrField, runCase{`{ print NF } END { print "end" }`, "1\n"})
	checkFails(t, "P15", more+"\n", glean.ErrField, runCase{`BEGIN { print 1 }`, "1\n"})
	checkFails(t, "P15", "a", glean.ErrField,
		runCase{`{ print; $0 = "` + more + `"; print 2 }`, "a\n"},
		runCase{`{ print; gsub(/a/, "` + more + `"); print 2 }`, "a\n"},
		runCase{`BEGIN { FS = "" } { $0 = "12345678901234567890123456789012345678901" }`, ""},
	)
	checkRuns(t, "P15", "a", runCase{`{ $0 = "` + forty + `"; print NF }`, "40\n"})
}

func TestP15Taking(t *testing.T) {
	checkRuns(t, "P15", "10 9x  +7\n",
		runCase{`{ print $0 }`, "10 9x  +7\n"},
		runCase{`{ print $1, $2, $3, $4, $40 }`, "10 9x +7  \n"},
		runCase{`{ print $NF, $(NF - 1), $"2", $"1x", $x }`, "+7 9x 9x 10 10 9x  +7\n"},
		runCase{`{ print $NF; x = $9; print NF }`, "+7\n3\n"},
		runCase{`{ $0 = "3 2 1"; print $$1, $$$2, $$0 }`, "1 2 1\n"},
		// A field is as what was read, and so is the record.
		runCase{`{ print ($1 > 9), ($2 > 10), ($1 == "10"), ($1 == "010"), ($3 == 7) }`, "1 1 1 0 1\n"},
		runCase{`{ $0 = " 010 "; print ($0 == 10), ($1 == 10), $0 "|" $1 }`, "1 1  010 |010\n"},
		runCase{`{ $0 = "10 x"; print ($0 == 10), ($0 < 9) }`, "0 1\n"},
		runCase{`{ x = $1; print (x > 9), x "" > y }`, "1 10\n"},
		// Behind NF there is nothing yet.
		runCase{`{ print ($4 == 0), ($4 == ""), !$4 }`, "1 1 1\n"},
		runCase{`{ $4 = ""; print ($4 == 0), ($4 == "") }`, "0 1\n"},
		runCase{`BEGIN { print ($0 == 0), ($0 == ""), ($1 == 0), ($1 == "") }`, "0 1 1 1\n"},
	)
	for _, number := range []string{"-1", "41", "(NF - 4)", `"41"`, `"-1x"`, "999999999999999999", "(0 - 999999999999999999)", "(999999999999999999 * 9 + 223372036854775817)"} {
		checkFails(t, "P15", "a b c", glean.ErrField, runCase{`{ print 1; print $(` + number + `) }`, "1\n"})
		checkFails(t, "P15", "a b c", glean.ErrField, runCase{`{ print 1; $(` + number + `) = 1 }`, "1\n"})
	}
}

func TestP16StoringToFields(t *testing.T) {
	checkRuns(t, "P16", " a  b c\n",
		runCase{fields + `{ $2 = "x y"; print; print fields() }`, "a x y c\n3<a><x y><c>\n"},
		runCase{fields + `{ $1 = $1; print; print fields() }`, "a b c\n3<a><b><c>\n"},
		runCase{fields + `{ $3 = ""; print $0 "|"; print fields() }`, "a b |\n3<a><b><>\n"},
		runCase{fields + `{ $6 = "f"; print; print fields() }`, "a b c   f\n6<a><b><c><><><f>\n"},
		runCase{fields + `{ $4 = x; print $0 "|"; print fields() }`, "a b c |\n4<a><b><c><>\n"},
		runCase{`{ $40 = 1; print NF, length($0) }`, "40 43\n"},
		runCase{`BEGIN { $3 = "c"; print; print NF }`, "  c\n3\n"},
		runCase{`BEGIN { $1 = ""; print; print NF }`, "\n1\n"},
		runCase{`{ $2 = 007; print; $2 = 1 / 1; print }`, "a 7 c\na 1 c\n"},
		runCase{`{ $2 = "010"; print ($2 == 10), ($2 == "10") }`, "1 0\n"},
		runCase{`{ $2 = 3; $2 += 4; print }`, "a 7 c\n"},
		runCase{`{ $5 += 4; print; print NF }`, "a b c  4\n5\n"},
		runCase{fields + `{ $1 = $2 = "z"; print fields() }`, "3<z><z><c>\n"},
		runCase{fields + `{ $0 = "p q"; print fields() $0 }`, "2<p><q>p q\n"},
		runCase{fields + `{ $0 = 12; print fields() $0; $0 = x; print fields() $0 "|" }`, "1<12>12\n0|\n"},
		runCase{fields + `{ $(0) = "p q"; ($1) = "r"; print fields() $0 }`, "2<r><q>r q\n"},
	)
	// The record is made of the fields, not the fields of the record.
	checkRuns(t, "P16", "a b",
		runCase{fields + `{ $1 = ""; print; print fields(); $0 = $0; print fields() }`, " b\n2<><b>\n1<b>\n"},
		runCase{fields + `BEGIN { OFS = "-" } { $2 = "x-y"; print; print fields() }`, "a-x-y\n2<a><x-y>\n"},
	)
}

func TestP16WhenOFSCounts(t *testing.T) {
	checkRuns(t, "P16", "a b c",
		runCase{`{ OFS = "-"; print; $1 = $1; print; OFS = "+"; print; print NF; $1 = $1; print }`, "a b c\na-b-c\na-b-c\n3\na+b+c\n"},
		runCase{`{ $1 = (OFS = "-"); print }`, "--b-c\n"},
		runCase{`{ $5 = (OFS = "--"); print }`, "a--b--c------\n"},
		runCase{`{ OFS = ""; $5 = "x"; print }`, "abcx\n"},
		runCase{`{ OFS = 0; $2 = "x"; print; OFS = y; $2 = "z"; print }`, "a0x0c\nazc\n"},
		runCase{`{ OFS = "-"; NF = NF; print }`, "a-b-c\n"},
		runCase{`{ NF = length(OFS = "-") + 1; print }`, "a-b\n"},
	)
}

func TestP16StoringToNF(t *testing.T) {
	checkRuns(t, "P16", " a  b c\n",
		runCase{fields + `{ NF = 2; print; print fields() }`, "a b\n2<a><b>\n"},
		runCase{fields + `{ NF = 5; print $0 "|"; print fields() }`, "a b c  |\n5<a><b><c><><>\n"},
		runCase{fields + `{ NF = 3; print; print fields() }`, "a b c\n3<a><b><c>\n"},
		runCase{fields + `{ NF = 0; print $0 "|"; print fields() }`, "|\n0\n"},
		runCase{fields + `{ NF = x; print $0 "|"; print fields() }`, "|\n0\n"},
		runCase{fields + `{ NF = 1; NF = 3; print $0 "|"; print fields() }`, "a  |\n3<a><><>\n"},
		runCase{fields + `{ NF -= 1; print; NF += 2; print $0 "|" }`, "a b\na b  |\n"},
		runCase{`{ NF = 40; print NF, length($0) }`, "40 42\n"},
		runCase{fields + `{ for (NF in a) ; a[1]; for (NF in a) print fields() }`, "1<a>\n"},
		runCase{fields + `{ sub(/3/, "2", NF); print fields(); sub(/4/, "1", NF); print fields() }`, "2<a><b>\n2<a><b>\n"},
		// NF is their number, whatever was stored.
		runCase{`{ NF = "2x"; print NF, (NF == 2), (NF < 10) }`, "2 1 1\n"},
		runCase{`{ x = NF = "2x"; print x, NF }`, "2x 2\n"},
		runCase{`{ NF = $4; print NF }`, "0\n"},
		runCase{`{ $4; print NF; $4 = 1; print NF }`, "3\n4\n"},
	)
	for _, number := range []string{"-1", "41", `"-1"`, `"41"`, "999999999999999999", "4294967297"} {
		checkFails(t, "P16", "a b c", glean.ErrField, runCase{`{ print 1; NF = ` + number + ` }`, "1\n"})
	}
	checkFails(t, "P16", "a b c", glean.ErrField,
		runCase{`{ print 1; NF += 38 }`, "1\n"},
		runCase{`{ print 1; NF -= 4 }`, "1\n"},
		runCase{`{ print 1; a["x"]; a[41]; for (NF in a) print }`, "1\n"},
	)
}

// A record that is made of fields must not grow too long; one that is stored
// as it is may.
func TestP16TooLong(t *testing.T) {
	half, long := strings.Repeat("x", 249), strings.Repeat("x", maxText+1)
	checkRuns(t, "P16", half+" y",
		runCase{`{ $2 = $1 1; print length($0) }`, "500\n"},
		runCase{`{ $0 = "` + long + `"; print length($0), length($1), NF }`, "501 501 1\n"},
	)
	checkFails(t, "P16", half+" y", glean.ErrText,
		runCase{`{ print NF; $2 = $1 12; print 2 }`, "2\n"},
		runCase{`{ print NF; $0 = "` + long + `"; print NF; $1 = $1; print 2 }`, "2\n1\n"},
		runCase{`{ print NF; $1 = "` + long + `"; print 2 }`, "2\n"},
		runCase{`{ print NF; $2 = $1; OFS = "12345"; NF = 2; print 2 }`, "2\n"},
		runCase{`{ print NF; $2 = $1; $4 = ""; print 2 }`, "2\n"},
	)
	checkFails(t, "P16", "", glean.ErrText, runCase{`BEGIN { OFS = "12345678901234"; NF = 36; print length($0); NF = 37; print 2 }`, "490\n"})
}
