// Package run makes a program ready and runs it.
package run

import (
	"strings"

	"glean/machine"
	"glean/streams"
	"glean/tree"
)

// An Outcome is what a run leaves behind; the reason is nil, if the run did
// not end early by an error.
type Outcome struct {
	Streams []streams.Stream
	Code    int
	Reason  error
}

// Run runs a program, in which nothing is used wrongly, over an input.
func Run(read tree.Program, input string, fuel int) Outcome {
	p := makeReady(read)
	m := machine.New(p.variables, p.arrays, fuel)
	reason := m.Attempt(func() {
		doAll(m, p.begin)
		p.readAll(m, input)
	})
	if reason == nil {
		reason = m.Attempt(func() { doAll(m, p.end) })
	}
	if reason != nil {
		return Outcome{Streams: m.Streams(), Reason: reason}
	}
	return Outcome{Streams: m.Streams(), Code: m.Code()}
}

func doAll(m *machine.Machine, blocks []statement) {
	for _, block := range blocks {
		block.do(m)
	}
}

// readAll reads the input, record by record.
func (p *program) readAll(m *machine.Machine, input string) {
	for input != "" {
		m.Step()
		line, rest, _ := strings.Cut(input, "\n")
		input = rest
		m.Read(line)
		p.doRules(m)
	}
}

// doRules goes through the rules for the record that was read.
func (p *program) doRules(m *machine.Machine) {
	for i := range p.rules {
		r := &p.rules[i]
		if r.applies(m) && r.body.do(m) == toNext {
			return
		}
	}
}

// A rule for records; one with two conditions is on or off.
type rule struct {
	conditions []expression
	on         bool
	body       statement
}

// applies tells whether a rule is to be run for the record.
func (r *rule) applies(m *machine.Machine) bool {
	switch len(r.conditions) {
	case 0:
		return true
	case 1:
		return r.conditions[0].isTrue(m)
	}
	if !r.on && !r.conditions[0].isTrue(m) {
		return false
	}
	r.on = !r.conditions[1].isTrue(m)
	return true
}
