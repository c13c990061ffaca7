package glean_test

import (
	"math"
	"math/rand"
	"slices"
	"strings"
	"sync"
	"testing"
	"unsafe"

	"glean/glean"
)

const maxText = 500

// allBytes answers a text of the 256 bytes, in rising order.
func allBytes() string {
	all := make([]byte, 256)
	for i := range all {
		all[i] = byte(i)
	}
	return string(all)
}

func TestErrnoNumbers(t *testing.T) {
	names := []glean.Errno{
		glean.OK, glean.ErrLong, glean.ErrForm, glean.ErrUse, glean.ErrFuel, glean.ErrZero,
		glean.ErrField, glean.ErrRegex, glean.ErrText, glean.ErrDeep, glean.ErrFormat, glean.ErrOut,
	}
	for i, e := range names {
		if int(e) != i {
			t.Errorf("the constant number %d is %d", i, e)
		}
	}
}

// randomText makes a text of bytes that mean something to patterns and
// formats, and now and then of any byte.
func randomText(r *rand.Rand, most int) string {
	const special = `ab0159 -+*?.|()[]^$\%dxcs` + "\t\n\x00\xff"
	text := make([]byte, r.Intn(most+1))
	for i := range text {
		if text[i] = special[r.Intn(len(special))]; r.Intn(20) == 0 {
			text[i] = byte(r.Intn(256))
		}
	}
	return string(text)
}

func checkRefusedMatch(t *testing.T, at int, n int, e glean.Errno) {
	t.Helper()
	if e != glean.OK && (at != 0 || n != 0) {
		t.Fatalf("P1: with the error %d Match answers %d, %d", e, at, n)
	}
}

func TestP1AnyTextsEndWithoutPanic(t *testing.T) {
	r := rand.New(rand.NewSource(1))
	for round := range 20000 {
		most := 12
		if round%100 == 0 {
			most = maxText + 1
		}
		first, second := randomText(r, most), randomText(r, most)
		at, n, e := glean.Match(first, second)
		checkRefusedMatch(t, at, n, e)
		if e == glean.OK && (at < -1 || n < 0 || at+n > len(second)) {
			t.Fatalf("P1: Match(%q, %q) = %d, %d", first, second, at, n)
		}
		if list, e := glean.Split(first, second); e != glean.OK && (list == nil || len(list) != 0) {
			t.Fatalf("P1: Split(%q, %q) = %q, %d", first, second, list, e)
		}
		args := make([]string, r.Intn(15))
		for i := range args {
			args[i] = randomText(r, most)
		}
		if text, e := glean.Format(first, args); e != glean.OK && text != "" {
			t.Fatalf("P1: Format(%q, %q) = %q, %d", first, args, text, e)
		}
	}
}

// randomProgram makes a text of a program's tokens and of things that look
// like some.
func randomProgram(r *rand.Rand) string {
	parts := []string{
		"BEGIN", "END", "function", "if", "else", "while", "for", "in", "print", "next", "exit", "return", "break",
		"continue", "delete",
		"length(", "substr", "index", "split(", "sub(", "gsub", "match", "toupper", "tolower", "sprintf",
		"||", "&&", "!~", "<=", "==", "!=", ">=", "+=", "-=", "*=", "/=", "%=",
		"{", "}", "(", ")", "[", "]", ";", ",", "+", "-", "*", "/", "%", "!", ">", "<", "~", "?", ":", "=", "$",
		"{", "}", "(", ")", ";", ",", "x", "y", "a[1]", "f(", "f", "NR", "1", "007", "\"s\"", "/p/", "/(/", "1x",
		"\"", "\\", "#", "\n", "@", "|", "\x00", "\xff",
		"{ x = 1 }", "function f(x, a[]) { return x }", "for (k in a)", "for (;;)", "if (x)", "while (x)", "print x", "f(x)",
	}
	var b strings.Builder
	for range r.Intn(20) {
		b.WriteString(parts[r.Intn(len(parts))])
		b.WriteString([]string{"", " ", " ", "\t"}[r.Intn(4)])
	}
	return b.String()
}

func TestP1AnyProgramEndsWithoutPanic(t *testing.T) {
	r := rand.New(rand.NewSource(3))
	for range 50000 {
		program := randomProgram(r)
		text, e, at := glean.Print(program)
		switch {
		case e == glean.OK && at == 0, e == glean.ErrLong && at == 0 && text == "":
		case e == glean.ErrForm && 0 <= at && at <= len(program) && text == "":
			checkCanGoOn(t, program[:at])
		case e == glean.ErrUse && 0 <= at && at < len(program) && text == "":
		default:
			t.Fatalf("P1: Print(%q) = %q, %d, %d", program, text, e, at)
		}
	}
	for _, program := range []string{allBytes(), "{ print \"" + strings.Repeat("\xff", 500) + "\" }", strings.Repeat("/", maxProgram), strings.Repeat("\\", maxProgram)} {
		glean.Print(program)
	}
}

// checkCanGoOn holds Print to it that a text with which a program was said to
// be able to go on is a program, or ends too early.
func checkCanGoOn(t *testing.T, text string) {
	t.Helper()
	if _, e, at := glean.Print(text); e == glean.ErrForm && at != len(text) {
		t.Fatalf("P7: Print(%q): the error 2 at %d", text, at)
	}
}

// checkSound holds what Run answers to what it can be at all.
func checkSound(t *testing.T, program, input string, fuel int) {
	t.Helper()
	streams, code, e, place := glean.Run(program, input, fuel)
	refused := e == glean.ErrLong || e == glean.ErrForm || e == glean.ErrUse
	sound := code == 0 || e == glean.OK && 0 < code && code < 256
	if refused {
		sound = sound && streams != nil && len(streams) == 0
	} else {
		sound = sound && place == 0 && len(streams) > 0 && streams[0].Name == ""
	}
	size, names := 0, map[string]bool{}
	for _, s := range streams {
		size += len(s.Text)
		sound = sound && !names[s.Name]
		names[s.Name] = true
	}
	if !sound || size > 4000 {
		t.Fatalf("P1: Run(%q, %q, %d) = %q, %d, %d, %d", program, input, fuel, streams, code, e, place)
	}
}

func TestP1AnyRunEndsWithoutPanic(t *testing.T) {
	r := rand.New(rand.NewSource(4))
	s := speller{r: r}
	for range 20000 {
		program := s.text(s.program().loose)
		if r.Intn(4) == 0 {
			program = randomProgram(r)
		}
		checkSound(t, program, randomText(r, 60), r.Intn(maxFuel+2)-1)
	}
}

// Programs that do as much as they can.
func TestP1HardRunsEnd(t *testing.T) {
	input := strings.Repeat("a ", 20) + strings.Repeat("\n", 300)
	for _, program := range []string{
		`{ while (1) ; }`,
		`BEGIN { for (;;) for (;;) x = x }`,
		`function f() { return f() f() } BEGIN { while (1) f() }`,
		`function f(n) { return n ? f(n - 1) f(n - 1) : 1 } BEGIN { while (1) f(14) }`,
		`BEGIN { while (1) a[i += 1] a[i += 1] a[i += 1] a[i += 1] a[i += 1] a[i += 1] a[i += 1] }`,
		`BEGIN { while (1) { a[i += 1]; for (k in a) break; split("", b); delete c } }`,
		`BEGIN { x = sprintf("%99s%99s%99s%99s%99s"); while (1) gsub(/( *b)?/, "&", x) }`,
		`BEGIN { x = sprintf("%99s%99s%99s%99s%99s"); while (1) gsub(/( *)*$|b/, "&", x) }`,
		`BEGIN { x = sprintf("%99s%99s%99s%99s%99s"); while (1) gsub(/(` + strings.Repeat(" *", 230) + `b)?/, "", x) }`,
		`BEGIN { x = sprintf("%99s%99s%99s%99s%99s"); while (1) gsub(/(b` + strings.Repeat(" *", 230) + `)?/, "", x) }`,
		`BEGIN { x = sprintf("%99s%99s%99s%99s%99s"); while (1) split(x, a, / |` + strings.Repeat(" *", 220) + `b/) }`,
		`{ $40 = "x"; for (;;) NF = 40 - NF }`,
		`function f(a[]) { } BEGIN { while (1) f() f() f() f() f() f() f() f() f() f() f() f() f() f() f() f() f() f() f() f() }`,
		`BEGIN { ` + strings.Repeat("-", 500) + `1 }`,
		strings.Repeat("(", 290) + "1" + strings.Repeat(")", 290) + ";",
		`BEGIN ` + strings.Repeat("{", 290) + strings.Repeat("}", 290),
	} {
		checkSound(t, program, input, maxFuel)
	}
}

func TestP1OddArguments(t *testing.T) {
	if text, e := glean.Format("%d", nil); text != "0" || e != glean.OK {
		t.Errorf("P1: Format without a list = %q, %d", text, e)
	}
	for _, fuel := range []int{math.MinInt, -1, 0, 1, math.MaxInt} {
		checkSound(t, allBytes(), allBytes(), fuel)
		checkSound(t, `{ print $1 > $1 } END { print NR, NF }`, allBytes(), fuel)
	}
	huge := strings.Repeat("(", 1<<24)
	if text, e, at := glean.Print(huge); text != "" || e != glean.ErrLong || at != 0 {
		t.Errorf("P1: Print of a huge text = %q, %d, %d", text, e, at)
	}
	if at, n, e := glean.Match(huge, huge); at != 0 || n != 0 || e != glean.ErrLong {
		t.Errorf("P1: Match of huge texts = %d, %d, %d", at, n, e)
	}
	if list, e := glean.Split(huge, huge); list == nil || len(list) != 0 || e != glean.ErrLong {
		t.Errorf("P1: Split of huge texts = %q, %d", list, e)
	}
	if text, e := glean.Format(huge, []string{huge}); text != "" || e != glean.ErrLong {
		t.Errorf("P1: Format of huge texts = %q, %d", text, e)
	}
}

// Patterns on which a search that tries one way after the other never ends.
func TestP1HardPatternsEnd(t *testing.T) {
	text := strings.Repeat("a", maxText)
	for _, pattern := range []string{
		"(a*)*b",
		"((a+)+)+$b",
		"(a|a)*b",
		"(a|aa|aaa)*b",
		strings.Repeat("a?", 100) + strings.Repeat("a", 100) + "b",
		strings.Repeat("(", 120) + "a" + strings.Repeat(")*", 120) + "b",
		"a" + strings.Repeat("*", 498) + "b",
		strings.Repeat(".*", 249) + "b",
		"(" + strings.Repeat("a|", 240) + "a)*b",
	} {
		if at, n, e := glean.Match(pattern, text); at != -1 || n != 0 || e != glean.OK {
			t.Errorf("P1: Match(%q, ..) = %d, %d, %d", pattern, at, n, e)
		}
		if list, e := glean.Split(text, pattern); len(list) != 1 || list[0] != text || e != glean.OK {
			t.Errorf("P1: Split(.., %q) = %q, %d", pattern, list, e)
		}
	}
	open := strings.Repeat("(", maxText)
	if _, _, e := glean.Match(open, text); e != glean.ErrRegex {
		t.Errorf("P1: Match of open brackets: %d", e)
	}
}

func TestP1HandedInIsNotChanged(t *testing.T) {
	args := []string{" 12 ", "-7", "xyz", "", "9223372036854775808"}
	kept := slices.Clone(args)
	glean.Format("%d %x %c %s %05d %s", args)
	glean.Format("%q", args)
	if !slices.Equal(args, kept) {
		t.Errorf("P1: the arguments were %q, are %q", kept, args)
	}
}

// sharesMemory tells whether a piece lies within the memory of a text.
func sharesMemory(piece string, text string) bool {
	if piece == "" || text == "" {
		return false
	}
	from := uintptr(unsafe.Pointer(unsafe.StringData(text)))
	at := uintptr(unsafe.Pointer(unsafe.StringData(piece)))
	return from <= at && at < from+uintptr(len(text))
}

func TestP1AnswersAreNew(t *testing.T) {
	text := "first,second  third"
	for _, separator := range []string{" ", ",", "[, ]+", "qq", "q"} {
		list, _ := glean.Split(text, separator)
		for _, piece := range list {
			if sharesMemory(piece, text) {
				t.Errorf("P1: Split by %q: the piece %q is a part of the text", separator, piece)
			}
		}
		before := slices.Clone(list)
		list[0] = "changed"
		_ = append(list[:1], "changed too")
		if again, _ := glean.Split(text, separator); !slices.Equal(again, before) {
			t.Errorf("P1: Split by %q: first %q, then %q", separator, before, again)
		}
	}
	written, _, _ := glean.Print("{ print; } ")
	if again, _, _ := glean.Print(written); again != written || sharesMemory(again, written) {
		t.Errorf("P1: Print's answer %q is its argument", again)
	}
	checkRunIsNew(t, `BEGIN { ORS = ""; print "a text of the program"; print "another one" > "a stream of the program" } { print; print > $0; print $0 > $1 }`, "a-line-of-the-input")
	args := []string{"a text that is long"}
	if made, _ := glean.Format("%s", args); sharesMemory(made, args[0]) {
		t.Error("P1: Format's answer is its argument")
	}
	if made, _ := glean.Format(text, nil); sharesMemory(made, text) {
		t.Error("P1: Format's answer is its format")
	}
}

func checkRunIsNew(t *testing.T, program, input string) {
	t.Helper()
	streams, _, _, _ := glean.Run(program, input, 99)
	for _, s := range streams {
		for _, text := range []string{s.Name, s.Text} {
			if sharesMemory(text, program) || sharesMemory(text, input) {
				t.Errorf("P1: Run's answer %q is a part of an argument", text)
			}
		}
	}
	kept := slices.Clone(streams)
	streams[0] = glean.Stream{Name: "changed", Text: "changed"}
	if again, _, _, _ := glean.Run(program, input, 99); len(again) != 3 || !slices.Equal(again, kept) {
		t.Errorf("P1: Run answers first %q, then %q", kept, again)
	}
}

func TestP2NothingIsKept(t *testing.T) {
	check := func() {
		if at, n, e := glean.Match("b+", "abbbc"); at != 1 || n != 3 || e != glean.OK {
			t.Errorf("P2: Match = %d, %d, %d", at, n, e)
		}
		if list, e := glean.Split("a12b", "[0-9]+"); !slices.Equal(list, []string{"a", "b"}) || e != glean.OK {
			t.Errorf("P2: Split = %q, %d", list, e)
		}
		if text, e := glean.Format("%05d|%-4s|%x", []string{"-42", "ab", "255"}); text != "-0042|ab  |ff" || e != glean.OK {
			t.Errorf("P2: Format = %q, %d", text, e)
		}
		if text, e, at := glean.Print("{ x = 1 }"); text != "{ (x = 1); } " || e != glean.OK || at != 0 {
			t.Errorf("P2: Print = %q, %d, %d", text, e, at)
		}
		checkOutcome(t, "P2", `BEGIN { print x "<" FS ">"; FS = ","; x = 1 } NR == 1, 0 { a[$1] = NF } END { for (k in a) print k, a[k]; exit 3 }`, "a b,c\nd", 99,
			outcome{mainStream("< >\na b 2\nd 1\n"), 3, glean.OK})
		checkOutcome(t, "P2", `function f() { f() } { print NR > "f"; f() }`, "a", 99, outcome{[]glean.Stream{{"", ""}, {"f", "1\n"}}, 0, glean.ErrDeep})
		if text, e, at := glean.Print("{ x[1] = y }"); text != "{ (x[1] = y); } " || e != glean.OK || at != 0 {
			t.Errorf("P2: Print = %q, %d, %d", text, e, at)
		}
	}
	r := rand.New(rand.NewSource(2))
	s := speller{r: r}
	for range 500 {
		check()
		glean.Print(randomProgram(r))
		glean.Run(s.text(s.program().loose), "a b\nc", 200)
		first, second := randomText(r, 20), randomText(r, 20)
		glean.Match(first, second)
		glean.Split(first, second)
		glean.Format(first, []string{second})
	}
	var side sync.WaitGroup
	for range 8 {
		side.Add(1)
		go func() {
			defer side.Done()
			for range 200 {
				check()
			}
		}()
	}
	side.Wait()
}
