package glean_test

import (
	"strings"
	"testing"

	"glean/glean"
)

type matchCase struct {
	pattern, text string
	at, n         int
}

func checkMatches(t *testing.T, promise string, cases []matchCase) {
	t.Helper()
	for _, c := range cases {
		if at, n, e := glean.Match(c.pattern, c.text); at != c.at || n != c.n || e != glean.OK {
			t.Errorf("%s: Match(%q, %q) = %d, %d, %d, want %d, %d", promise, c.pattern, c.text, at, n, e, c.at, c.n)
		}
	}
}

func TestP3Long(t *testing.T) {
	full := strings.Repeat("a", maxText)
	for _, c := range []struct {
		pattern, text string
		at, n         int
		e             glean.Errno
	}{
		{full, full, 0, maxText, glean.OK},
		{full + "a", full, 0, 0, glean.ErrLong},
		{full, full + "a", 0, 0, glean.ErrLong},
		{full + "a", full + "a", 0, 0, glean.ErrLong},
		{"(", full + "a", 0, 0, glean.ErrLong},
		{full + "(", "a", 0, 0, glean.ErrLong},
		{"(", full, 0, 0, glean.ErrRegex},
		{full[:499] + "(", full, 0, 0, glean.ErrRegex},
	} {
		if at, n, e := glean.Match(c.pattern, c.text); at != c.at || n != c.n || e != c.e {
			t.Errorf("P3: %d and %d bytes: %d, %d, %d, want %d, %d, %d", len(c.pattern), len(c.text), at, n, e, c.at, c.n, c.e)
		}
	}
}

func TestP3NoPattern(t *testing.T) {
	for _, pattern := range []string{
		// signs that are no units
		"*", "+", "?", ")", "|", "*a", "^|", "a)", "a)b", "(a))", "(*a)", "(+)", "a|*b", "a|?", "(?a)",
		// a choice that lacks a unit
		"a|", "|a", "a||b", "(a|)", "(|a)", "(a||b)", "|", "||",
		// brackets
		"(", "()", "a()", "(())", "((a)", "(a", "(a|b", "a(", "()*",
		// a backslash without a byte
		`\`, `a\`, `a\\\`, `(a\`, `(a\)`,
		// classes
		"[", "[^", "[]", "[^]", "[a", "[a-", "[a-]b[", "[^a", `[\`, `[\]`, `[a\]`, `[^\]`, "[]a", "[^]a", "([a)",
		// ranges
		"[b-a]", "[ab-a]", "[\xff-\x00]", "[a--]", `[a-\]`, `[a-\]]`, `[a-\\]`, `[!-\]`, `[a-\z]`, `[\z-a]`, "[]-Z]", "[a-cb-a]",
	} {
		for _, text := range []string{"", "a", pattern} {
			if at, n, e := glean.Match(pattern, text); at != 0 || n != 0 || e != glean.ErrRegex {
				t.Errorf("P3: Match(%q, %q) = %d, %d, %d, want 0, 0, ErrRegex", pattern, text, at, n, e)
			}
		}
	}
}

func TestP4Units(t *testing.T) {
	checkMatches(t, "P4", []matchCase{
		{"", "", 0, 0}, {"", "abc", 0, 0},
		{"b", "abb", 1, 1}, {"bc", "abbc", 2, 2}, {"abc", "ab", -1, 0}, {"a", "", -1, 0},
		{".", "", -1, 0}, {"..", "\n\x00", 0, 2}, {"a.c", "a\nc", 0, 3},
		{"]", "x]", 1, 1}, {"a]*", "a]]", 0, 3}, {"{", "{", 0, 1}, {"}-", "}-", 0, 2}, {"a{1}", "aa{1}", 1, 4},
		{"/", "a/", 1, 1}, {",", ",", 0, 1}, {" ", "a b", 1, 1},
		{`\*`, "a*", 1, 1}, {`\\`, `a\`, 1, 1}, {`\(\)`, "()", 0, 2}, {`\n`, "\nn", 1, 1}, {`\.`, "a.", 1, 1},
		{`\^`, "a^", 1, 1}, {`\$a`, "$a", 0, 2}, {`\[a]`, "[a]", 0, 3}, {`\|`, "a|b", 1, 1}, {`\?+`, "??", 0, 2},
		{"(a)", "ba", 1, 1}, {"((a)b)", "ab", 0, 2}, {"(ab)(cd)", "abcd", 0, 4},
	})
}

func TestP4Anchors(t *testing.T) {
	checkMatches(t, "P4", []matchCase{
		{"^", "a", 0, 0}, {"$", "a", 1, 0}, {"$", "", 0, 0}, {"^$", "", 0, 0}, {"$^", "", 0, 0}, {"^$", "a", -1, 0},
		{"^a", "ba", -1, 0}, {"^a", "a\na", 0, 1}, {"^b", "a\nb", -1, 0}, {"a$", "a\n", -1, 0}, {"a$", "aa", 1, 1},
		{"a^b", "a^b", -1, 0}, {"a$b", "a$b", -1, 0}, {"b|^a", "ab", 0, 1}, {"(^a|b)c", "acbc", 0, 2}, {"(^a|b)c", "xacbc", 3, 2},
		{"^*a", "ba", 1, 1}, {"^?a", "ba", 1, 1}, {"^+a", "ba", -1, 0}, {"(^a)*b", "aab", 2, 1}, {"(^a)+", "aa", 0, 1},
		{"(a$)*", "aa", 0, 0}, {"(a$)+", "aa", 1, 1}, {"a$*b", "ab", 0, 2}, {"(a|^)*b", "aab", 0, 3}, {"(a|$)+", "baa", 1, 2},
		{"^^a$$", "a", 0, 1}, {"x*$", "axx", 1, 2},
	})
}

func TestP4Signs(t *testing.T) {
	checkMatches(t, "P4", []matchCase{
		{"b*", "abb", 0, 0}, {"ab*", "abbb", 0, 4}, {"ab*c", "ac", 0, 2}, {"b+", "abb", 1, 2}, {"ab+c", "ac", -1, 0},
		{"ab?c", "ac", 0, 2}, {"ab?c", "abc", 0, 3}, {"ab?c", "abbc", -1, 0}, {"b?", "bb", 0, 1},
		{"a+*", "", 0, 0}, {"a+*", "aa", 0, 2}, {"a?+", "aa", 0, 2}, {"a*?", "aa", 0, 2}, {"a+?", "aa", 0, 2},
		{"a+?", "", 0, 0}, {"a??", "aa", 0, 1}, {"a++b", "aab", 0, 3}, {"a***?+", "aaa", 0, 3},
		{"(ab)*", "ababa", 0, 4}, {"(ab)+", "xababa", 1, 4}, {"(ab)?c", "abc", 0, 3}, {".*", "a\nb", 0, 3},
		{"(a*)*", "b", 0, 0}, {"(a*)+", "aab", 0, 2}, {"((a?)*)+b", "aab", 0, 3}, {"[ab]*c", "abac", 0, 4},
	})
}

func TestP4Choices(t *testing.T) {
	checkMatches(t, "P4", []matchCase{
		{"a|b", "cb", 1, 1}, {"a|b|c", "c", 0, 1}, {"ab|cd", "acd", 1, 2}, {"a|bc*", "bcc", 0, 3},
		{"(a|b)c", "bc", 0, 2}, {"^a|b$", "ab", 0, 1}, {"^a|b$", "cb", 1, 1}, {"a|(b|c)d", "cd", 0, 2},
	})
}

func TestP4FirstAndLongest(t *testing.T) {
	checkMatches(t, "P4", []matchCase{
		{"a|ab", "ab", 0, 2}, {"a|ab|abc", "xabcd", 1, 3}, {"(a|ab)(c|bcd)", "abcd", 0, 4}, {"(a|ab)(bc|c)?", "abc", 0, 3},
		{"c|abcd", "abcd", 0, 4}, {"c|abcd", "abce", 2, 1}, {"cd|abce", "abcd", 2, 2}, {"x*", "axx", 0, 0},
		{"b|ab*c", "abbbb", 1, 1}, {"a|b|aab*", "caabb", 1, 4}, {"(a|ba|b)(ab)?", "bab", 0, 3}, {"a*(ab)*", "aabab", 0, 5},
		{"a|a.*z", "aazb", 0, 3},
	})
}

func TestP4Classes(t *testing.T) {
	checkMatches(t, "P4", []matchCase{
		{"[abc]", "xc", 1, 1}, {"[a-c]+", "xabcd", 1, 3}, {"[^a-c]", "abcd", 3, 1}, {"[^a]", "\n", 0, 1}, {"[^a]", "", -1, 0},
		{"[]]", "]", 0, 1}, {"[]a]+", "a]", 0, 2}, {"[^]]+", "ab]", 0, 2}, {"[^]a]", "]ab", 2, 1}, {"[]-a]+", "Z]^_`ab", 1, 5},
		{"[a-]+", "-ab", 0, 2}, {"[-a]+", "-ab", 0, 2}, {"[a-c-e]+", "bd-e", 0, 1}, {"[a-c-e]+", "-ecb", 0, 4}, {"[---]", "-", 0, 1},
		{"[--]+", "--", 0, 2}, {"[+--]+", "*+,-.", 1, 3}, {"[^-]", "-a", 1, 1}, {"[^a-]", "-ab", 2, 1}, {"[%--]+", "$%&-.", 1, 3},
		{"[a^]+", "^a", 0, 2}, {"[^^]", "^a", 1, 1}, {"[\\^a]+", "^ab", 0, 2}, {"[[]", "[", 0, 1}, {"[[-]]", "-]", 0, 2},
		{`[\]a]+`, "]a]", 0, 3}, {`[\\]`, `\`, 0, 1}, {`[\a]`, `\a`, 1, 1}, {`[\--0]+`, ",-./01", 1, 4}, {`[a\-c]+`, "a-cb", 0, 3},
		{`[\a-c]+`, "abcd", 0, 3}, {`[\]-a]+`, "[]^a", 1, 3}, {`[\n]`, "\nn", 1, 1}, {"[.*+?|()$]+", "a.*+?|()$", 1, 8},
		{"[a-a]", "a", 0, 1}, {"[\x00-\xff]+", "\x00a\xff", 0, 3}, {"[\x80-\xff]", "a\x80", 1, 1}, {"[a][b]", "ab", 0, 2},
		{"[^\x00-\xff]", "a", -1, 0}, {"[ab]]", "a]", 0, 2}, {"[a]-b]", "a-b]", 0, 4}, {"[b-ca]+", "abcd", 0, 3},
	})
}

// Every byte stands for itself where it means nothing else, with a backslash
// ahead, and in classes; and a dot stands for it.
func TestP4EveryByte(t *testing.T) {
	for _, b := range []byte(allBytes()) {
		one := string([]byte{b})
		other := string([]byte{b ^ 1})
		checkMatches(t, "P4", []matchCase{
			{`\` + one, other + one, 1, 1},
			{`[\` + one + `]`, other + one, 1, 1},
			{`[^\` + one + `]`, one + other, 1, 1},
			{".", one, 0, 1},
		})
		if !strings.Contains(`*+?)|([\.^$`, one) {
			checkMatches(t, "P4", []matchCase{{one, other + one, 1, 1}})
		}
		if b != '^' && b != '\\' {
			checkMatches(t, "P4", []matchCase{{"[" + one + "]", other + one, 1, 1}})
		}
	}
}

// A class of a range has just the bytes of the range.
func TestP4EveryRange(t *testing.T) {
	for low := 0; low < 256; low += 5 {
		for high := low; high < 256; high += 7 {
			if high == '\\' || high == ']' {
				continue
			}
			class := `[\` + string([]byte{byte(low), '-', byte(high)}) + "]+"
			checkMatches(t, "P4", []matchCase{{class, allBytes(), low, high - low + 1}})
		}
	}
}
