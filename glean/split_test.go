package glean_test

import (
	"slices"
	"strings"
	"testing"

	"glean/glean"
)

type splitCase struct {
	text, separator string
	pieces          []string
}

func checkSplits(t *testing.T, cases []splitCase) {
	t.Helper()
	for _, c := range cases {
		if list, e := glean.Split(c.text, c.separator); !slices.Equal(list, c.pieces) || e != glean.OK {
			t.Errorf("P5: Split(%q, %q) = %q, %d, want %q", c.text, c.separator, list, e, c.pieces)
		}
	}
}

func TestP5Errors(t *testing.T) {
	full := strings.Repeat("a", maxText)
	for _, c := range []struct {
		text, separator string
		e               glean.Errno
	}{
		{full, full, glean.OK},
		{full + "a", " ", glean.ErrLong},
		{"", full + "a", glean.ErrLong},
		{full + "a", full + "a", glean.ErrLong},
		{full + "a", "((", glean.ErrLong},
		{"a", full + "(", glean.ErrLong},
		{"a", full[:499] + "(", glean.ErrRegex},
		{"a", "a|", glean.ErrRegex},
		{"a", "()", glean.ErrRegex},
		{"", "[]", glean.ErrRegex},
		{"", `a\`, glean.ErrRegex},
		{"a", "**", glean.ErrRegex},
	} {
		list, e := glean.Split(c.text, c.separator)
		if e != c.e || e != glean.OK && (list == nil || len(list) != 0) {
			t.Errorf("P5: Split of %d bytes by %q = %q, %d, want %d", len(c.text), c.separator, list, e, c.e)
		}
	}
}

func TestP5ByBlank(t *testing.T) {
	checkSplits(t, []splitCase{
		{"", " ", []string{}}, {" ", " ", []string{}}, {" \t\n ", " ", []string{}},
		{"a", " ", []string{"a"}}, {"a b", " ", []string{"a", "b"}}, {"  a\t \nb\n", " ", []string{"a", "b"}},
		{"a\rb\vc\fd", " ", []string{"a\rb\vc\fd"}}, {"a\u00a0b\x00c", " ", []string{"a\u00a0b\x00c"}},
	})
}

func TestP5ByByte(t *testing.T) {
	checkSplits(t, []splitCase{
		{"", ",", []string{}}, {",", ",", []string{"", ""}}, {"a", ",", []string{"a"}}, {",a,", ",", []string{"", "a", ""}},
		{"a,,b", ",", []string{"a", "", "b"}}, {"a b", ",", []string{"a b"}}, {" a , b ", ",", []string{" a ", " b "}},
		{"a\t\tb c", "\t", []string{"a", "", "b c"}}, {"a\nb c", "\n", []string{"a", "b c"}},
	})
	for _, b := range []byte(allBytes()) {
		if b == ' ' {
			continue
		}
		one, other := string([]byte{b}), string([]byte{b ^ 1})
		checkSplits(t, []splitCase{{other + one + one + other + other, one, []string{other, "", other + other}}})
	}
}

func TestP5ByNothing(t *testing.T) {
	checkSplits(t, []splitCase{
		{"", "", []string{}}, {"a", "", []string{"a"}}, {"a b", "", []string{"a", " ", "b"}}, {"\xc3\xa9", "", []string{"\xc3", "\xa9"}},
	})
	list, e := glean.Split(allBytes(), "")
	if strings.Join(list, "") != allBytes() || len(list) != 256 || e != glean.OK {
		t.Errorf("P5: Split of all bytes = %q, %d", list, e)
	}
}

func TestP5ByPattern(t *testing.T) {
	checkSplits(t, []splitCase{
		{"", "ab", []string{}}, {"", "a*", []string{}}, {"ab", "ab", []string{"", ""}}, {"xaby", "ab", []string{"x", "y"}},
		{"a1b22c", "[0-9]+", []string{"a", "b", "c"}}, {"1a", "[0-9]+", []string{"", "a"}}, {"a1", "[0-9]+", []string{"a", ""}},
		{"a1b", "[0-9][0-9]", []string{"a1b"}}, {"a  b", "  ", []string{"a", "b"}}, {"a\tb  c", "  ", []string{"a\tb", "c"}},
		// empty matches do not part
		{"abc", "x*", []string{"abc"}}, {"baab", "a*", []string{"b", "b"}}, {"abc", "(x*)*", []string{"abc"}}, {"ab", "$^", []string{"ab"}},
		{"ab", "b?$", []string{"a", ""}}, {"xa", "x*|a", []string{"", "", ""}}, {"bxa", "(xa)?", []string{"b", ""}},
		// the longest at the first place
		{"xaby", "a|ab", []string{"x", "y"}}, {"aaa", "aa", []string{"", "a"}}, {"abcd", "c|abc", []string{"", "d"}},
		{"1aaz2a3", "a|a.*z", []string{"1", "2", "3"}},
		// the text's beginning and end stay where they are
		{"aab", "^a", []string{"", "ab"}}, {"baa", "a$", []string{"ba", ""}}, {"aba", "^a|a$", []string{"", "b", ""}},
		// two bytes are a pattern, not a text
		{"a.b", `\.`, []string{"a", "b"}}, {"a..b", "..", []string{"", "", ""}}, {"a|b", `\|`, []string{"a", "b"}}, {"a b", "[ ]", []string{"a", "b"}},
	})
}
