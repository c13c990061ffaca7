package patterns

import (
	"regexp"
	"strings"
	"testing"
)

// eachText calls do with every text of at most most bytes of the alphabet.
func eachText(alphabet string, most int, do func(string)) {
	var grow func(string)
	grow = func(text string) {
		do(text)
		if len(text) == most {
			return
		}
		for i := range len(alphabet) {
			grow(text + alphabet[i:i+1])
		}
	}
	grow("")
}

// lacksUnit tells of a text in which a choice or a pair of brackets lacks a
// unit, which regexp lets pass.
func lacksUnit(text string) bool {
	around := "(" + text + ")"
	for _, pair := range []string{"()", "(|", "||", "|)"} {
		if strings.Contains(around, pair) {
			return text != ""
		}
	}
	return false
}

// A text is a pattern just where regexp, which knows the same signs, takes
// it; and its matches are the same.
func TestAgainstRegexp(t *testing.T) {
	texts := []string{"", "a", "b", "ab", "ba", "aab", "abab", "bbaab"}
	eachText("ab.*+?|()^$", 5, func(pattern string) {
		p, ok := Read(pattern)
		want, err := regexp.CompilePOSIX(pattern)
		if wantOk := err == nil && !lacksUnit(pattern); ok != wantOk {
			t.Errorf("Read(%q): %t, want %t", pattern, ok, wantOk)
			return
		}
		if !ok {
			return
		}
		for _, text := range texts {
			at, length := p.Find(text)
			place := want.FindStringIndex(text)
			if place == nil {
				place = []int{-1, -1}
			}
			if at != place[0] || length != place[1]-place[0] {
				t.Errorf("Find(%q, %q) = %d, %d, want %d, %d", pattern, text, at, length, place[0], place[1]-place[0])
			}
		}
	})
}

// ends answers the places at which a match of a node from a place on can
// end, worked out from the meaning of the node.
func ends(n node, text string, at int) map[int]bool {
	found := map[int]bool{}
	switch n.kind {
	case oneOf:
		if at < len(text) && n.set.has(text[at]) {
			found[at+1] = true
		}
	case atBegin:
		found[at] = at == 0
	case atEnd:
		found[at] = at == len(text)
	case inRow:
		found[at] = true
		for _, part := range n.parts {
			found = endsFromAll(part, text, found)
		}
	case either:
		for _, part := range n.parts {
			join(found, ends(part, text, at))
		}
	case oneOrNone:
		found[at] = true
		join(found, ends(n.parts[0], text, at))
	default:
		found = ends(n.parts[0], text, at)
		for range len(text) + 1 {
			join(found, endsFromAll(n.parts[0], text, found))
		}
		if n.kind == anyNumber {
			found[at] = true
		}
	}
	return found
}

func join(all map[int]bool, more map[int]bool) {
	for end, is := range more {
		all[end] = all[end] || is
	}
}

func endsFromAll(n node, text string, places map[int]bool) map[int]bool {
	found := map[int]bool{}
	for place, is := range places {
		if is {
			join(found, ends(n, text, place))
		}
	}
	return found
}

// longest answers the length of the longest match from a place on, or -1.
func longest(n node, text string, at int) int {
	found := ends(n, text, at)
	for end := len(text); end >= at; end-- {
		if found[end] {
			return end - at
		}
	}
	return -1
}

func checkLongest(t *testing.T, pattern string, texts []string) {
	tree, ok := readTree(pattern)
	if !ok {
		return
	}
	p, _ := Read(pattern)
	for _, text := range texts {
		lengths := p.Longest(text)
		if len(lengths) != len(text)+1 {
			t.Fatalf("Longest(%q, %q) = %d", pattern, text, lengths)
		}
		for at, length := range lengths {
			if want := longest(tree, text, at); length != want {
				t.Errorf("Longest(%q, %q) at %d: %d, want %d", pattern, text, at, length, want)
			}
		}
	}
}

func TestAgainstMeaning(t *testing.T) {
	texts := []string{"", "a", "ab", "abbab"}
	eachText("ab*+?|()^$", 5, func(pattern string) { checkLongest(t, pattern, texts) })
	texts = []string{"", "b-]", `^a\b[`}
	eachText(`ab[]^-\*`, 5, func(pattern string) { checkLongest(t, pattern, texts) })
}

func TestStatesGrowWithThePattern(t *testing.T) {
	for _, pattern := range []string{
		strings.Repeat("(", 160) + "a" + strings.Repeat(")+", 160),
		"a" + strings.Repeat("?+*", 160),
		"a" + strings.Repeat("|a", 240),
	} {
		p, ok := Read(pattern)
		if !ok || len(p.states) > 2*len(pattern) {
			t.Errorf("Read(%q): %t, %d states", pattern, ok, len(p.states))
		}
	}
}
