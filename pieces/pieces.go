// Package pieces cuts texts into pieces.
package pieces

import (
	"glean/patterns"
	"glean/value"
)

// Cut cuts a text by a separator: a blank, the empty text, a single byte or
// a pattern; false, if a longer separator is no pattern.
func Cut(text string, separator string) ([]string, bool) {
	switch {
	case separator == " ":
		return betweenBlanks(text), true
	case separator == "":
		return eachByte(text), true
	case len(separator) == 1:
		return betweenBytes(text, separator[0]), true
	}
	p, ok := patterns.Read(separator)
	if !ok {
		return []string{}, false
	}
	return BetweenMatches(text, p), true
}

func betweenBlanks(text string) []string {
	c := start(text)
	for at := range len(text) {
		if value.IsBlank(text[at]) {
			c.cutFilled(at)
			c.from = at + 1
		}
	}
	c.cutFilled(len(text))
	return c.pieces
}

func eachByte(text string) []string {
	c := start(text)
	for at := range len(text) {
		c.cut(at+1, at+1)
	}
	return c.pieces
}

func betweenBytes(text string, separator byte) []string {
	c := start(text)
	for at := range len(text) {
		if text[at] == separator {
			c.cut(at, at+1)
		}
	}
	return c.rest()
}

// BetweenMatches answers the pieces between the matches that are not empty.
func BetweenMatches(text string, p patterns.Pattern) []string {
	c := start(text)
	for at, length := range p.Longest(text) {
		if at >= c.from && length > 0 {
			c.cut(at, at+length)
		}
	}
	return c.rest()
}

// A cutter holds a text's own bytes, so that no piece shares memory with the
// text that was handed in.
type cutter struct {
	bytes  []byte
	from   int // where the next piece begins
	pieces []string
}

func start(text string) cutter {
	return cutter{bytes: []byte(text), pieces: []string{}}
}

// cut takes the piece up to the place end; the next one begins at from.
func (c *cutter) cut(end int, from int) {
	c.pieces = append(c.pieces, string(c.bytes[c.from:end]))
	c.from = from
}

// cutFilled takes the piece up to the place end, if it is not empty.
func (c *cutter) cutFilled(end int) {
	if c.from < end {
		c.cut(end, end)
	}
}

// rest takes what is left of the text for the last piece; the empty text has
// none.
func (c *cutter) rest() []string {
	if len(c.bytes) > 0 {
		c.cut(len(c.bytes), len(c.bytes))
	}
	return c.pieces
}
