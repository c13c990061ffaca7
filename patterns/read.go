package patterns

// A nodeKind says what a node of a pattern's tree stands for.
type nodeKind int

const (
	oneOf     nodeKind = iota // a byte of the set
	atBegin                   // the text's beginning
	atEnd                     // the text's end
	inRow                     // the parts, one behind the other
	either                    // one of the parts
	anyNumber                 // any number of the one part
	oneOrMore                 // one or more of the one part
	oneOrNone                 // the one part or nothing
)

// A node is a part of a pattern as its text spells it.
type node struct {
	kind  nodeKind
	set   byteSet
	parts []node
}

// A reader reads a pattern's text from its beginning on. Its methods answer
// false where the text is no pattern.
type reader struct {
	text string
	at   int
}

// readTree makes a tree of a pattern's text.
func readTree(text string) (node, bool) {
	if text == "" {
		return node{kind: inRow}, true
	}
	r := reader{text: text}
	tree, ok := r.choice()
	return tree, ok && r.ended()
}

func (r *reader) ended() bool { return r.at == len(r.text) }

// sees tells whether the byte stands at the reader's place.
func (r *reader) sees(b byte) bool { return !r.ended() && r.text[r.at] == b }

// take answers the byte at the reader's place and goes past it.
func (r *reader) take() (byte, bool) {
	if r.ended() {
		return 0, false
	}
	r.at++
	return r.text[r.at-1], true
}

// choice reads rows with | between them.
func (r *reader) choice() (node, bool) {
	choice := node{kind: either}
	for {
		row, ok := r.row()
		if !ok {
			return node{}, false
		}
		choice.parts = append(choice.parts, row)
		if !r.sees('|') {
			return choice, true
		}
		r.at++
	}
}

// row reads one or more units, each with the signs behind it.
func (r *reader) row() (node, bool) {
	row := node{kind: inRow}
	for !r.ended() && !r.sees('|') && !r.sees(')') {
		part, ok := r.repeated()
		if !ok {
			return node{}, false
		}
		row.parts = append(row.parts, part)
	}
	return row, len(row.parts) > 0
}

// repeated reads a unit and the signs behind it that say how many of it.
func (r *reader) repeated() (node, bool) {
	part, ok := r.unit()
	for ok && !r.ended() {
		kind, sign := repetition(r.text[r.at])
		if !sign {
			break
		}
		r.at++
		part = node{kind: kind, parts: []node{part}}
	}
	return part, ok
}

// repetition answers which repetition a byte asks for, if it asks for one.
func repetition(b byte) (nodeKind, bool) {
	switch b {
	case '*':
		return anyNumber, true
	case '+':
		return oneOrMore, true
	case '?':
		return oneOrNone, true
	}
	return 0, false
}

// unit reads a unit without the signs behind it.
func (r *reader) unit() (node, bool) {
	b, ok := r.take()
	switch b {
	case '*', '+', '?', ')', '|':
		return node{}, false
	case '^':
		return node{kind: atBegin}, ok
	case '$':
		return node{kind: atEnd}, ok
	case '(':
		return r.group()
	case '[':
		set, closed := r.class()
		return node{kind: oneOf, set: set}, closed
	case '.':
		return node{kind: oneOf, set: byteSet{}.others()}, ok
	case '\\':
		b, ok = r.take()
	}
	return node{kind: oneOf, set: single(b)}, ok
}

// group reads the rest of a group, behind its opening bracket.
func (r *reader) group() (node, bool) {
	inner, ok := r.choice()
	if !ok || !r.sees(')') {
		return node{}, false
	}
	r.at++
	return inner, true
}

// class reads the rest of a class, behind its opening bracket.
func (r *reader) class() (byteSet, bool) {
	var set byteSet
	other := r.sees('^')
	if other {
		r.at++
	}
	// The first byte is a member even if it is the closing bracket.
	for first := true; first || !r.sees(']'); first = false {
		if !r.member(&set) {
			return byteSet{}, false
		}
	}
	r.at++
	if other {
		set = set.others()
	}
	return set, true
}

// member reads one byte or one range of a class into the set.
func (r *reader) member(set *byteSet) bool {
	low, ok := r.take()
	if ok && low == '\\' {
		low, ok = r.take()
	}
	if !ok {
		return false
	}
	high := low
	if r.rangeFollows() {
		high = r.text[r.at+1]
		r.at += 2
		if high == '\\' || high < low {
			return false
		}
	}
	set.add(low, high)
	return true
}

// rangeFollows tells whether a - and an upper end stand at the reader's
// place.
func (r *reader) rangeFollows() bool {
	return r.sees('-') && r.at+1 < len(r.text) && r.text[r.at+1] != ']'
}
