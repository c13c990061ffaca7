package machine

import (
	"glean/fault"
	"glean/limit"
	"glean/value"
)

// A Call is one of a function, which has begun. What its parameters stand for
// lies in one of the two lists, by the parameter's number.
type Call struct {
	Values []value.Value
	Arrays []int
	Answer value.Value
	// How many arrays there were ahead of the call: later ones are its own.
	arraysAhead int
}

// Begin begins a call, if there are not too many.
func (m *Machine) Begin(c *Call) {
	if len(m.calls) == limit.MaxDepth {
		m.GiveUp(fault.ErrDeep)
	}
	c.arraysAhead = m.Arrays.Count()
	m.calls = append(m.calls, c)
}

// Call answers the call that has begun last.
func (m *Machine) Call() *Call { return m.calls[len(m.calls)-1] }

// End ends the call that has begun last.
func (m *Machine) End() {
	m.Arrays.Keep(m.Call().arraysAhead)
	m.calls = m.calls[:len(m.calls)-1]
}
