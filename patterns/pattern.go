// Package patterns reads patterns and finds their matches in texts.
package patterns

// A stateKind says what is asked for to go on from a state.
type stateKind int

const (
	takeByte  stateKind = iota // a byte of the set
	needBegin                  // the text's beginning
	needEnd                    // the text's end
	fork                       // nothing; there are two ways on
	done                       // nothing; here a match begins
)

// A state is a place within a pattern. A search follows all the ways through
// the states side by side, so that no pattern makes it try again and again; it
// goes from a match's end to its beginning, and so do the states.
type state struct {
	kind  stateKind
	set   byteSet
	next  int
	other int // the second way on from a fork
}

// A Pattern is made by Read.
type Pattern struct {
	states []state
	last   int // the state at which a match ends
}

// Read makes a pattern of its text; false, if the text is none.
func Read(text string) (Pattern, bool) {
	tree, ok := readTree(text)
	if !ok {
		return Pattern{}, false
	}
	var p Pattern
	p.last = p.build(tree, p.add(state{kind: done}))
	return p, true
}

// add puts a state to the pattern and answers its number.
func (p *Pattern) add(s state) int {
	p.states = append(p.states, s)
	return len(p.states) - 1
}

// build makes the states of a node, from which it goes on to next, and
// answers the one at which the node ends, for there a search comes to it.
func (p *Pattern) build(n node, next int) int {
	switch n.kind {
	case oneOf:
		return p.add(state{kind: takeByte, set: n.set, next: next})
	case atBegin:
		return p.add(state{kind: needBegin, next: next})
	case atEnd:
		return p.add(state{kind: needEnd, next: next})
	case inRow:
		return p.buildRow(n.parts, next)
	case either:
		return p.buildChoice(n.parts, next)
	case oneOrNone:
		return p.add(state{kind: fork, next: p.build(n.parts[0], next), other: next})
	}
	return p.buildLoop(n, next)
}

func (p *Pattern) buildRow(parts []node, next int) int {
	for _, part := range parts {
		next = p.build(part, next)
	}
	return next
}

func (p *Pattern) buildChoice(parts []node, next int) int {
	end := p.build(parts[0], next)
	for _, part := range parts[1:] {
		end = p.add(state{kind: fork, next: p.build(part, next), other: end})
	}
	return end
}

// buildLoop makes a fork that goes round through the node's part or on.
func (p *Pattern) buildLoop(n node, next int) int {
	loop := p.add(state{kind: fork, other: next})
	end := p.build(n.parts[0], loop)
	p.states[loop].next = end
	if n.kind == oneOrMore {
		return end
	}
	return loop
}
