// Package machine holds what a run has at hand: the variables, the record,
// the arrays, the calls, the streams and the fuel.
package machine

import (
	"glean/arrays"
	"glean/fault"
	"glean/limit"
	"glean/record"
	"glean/streams"
	"glean/value"
)

// The numbers of the variables that are there from the beginning.
const (
	NR = iota
	NF
	FS
	OFS
	ORS
	RSTART
	RLENGTH
)

// A Machine gives up, by a panic that Attempt catches, wherever a run ends
// early.
type Machine struct {
	Arrays    *arrays.Arrays
	variables []value.Value
	record    record.Record
	calls     []*Call
	streams   streams.Streams
	fuel      int // the steps that may still be made
	code      int
}

// New makes a machine with so many variables (the ones that are there from
// the beginning are the first), arrays and steps.
func New(variables int, arrayCount int, fuel int) *Machine {
	m := &Machine{
		Arrays:    arrays.New(arrayCount),
		variables: make([]value.Value, variables),
		streams:   streams.New(),
		fuel:      fuel,
	}
	m.variables[NR] = value.OfNumber(0)
	m.variables[NF] = value.OfNumber(0)
	m.variables[FS] = value.OfText(" ")
	m.variables[OFS] = value.OfText(" ")
	m.variables[ORS] = value.OfText("\n")
	m.variables[RSTART] = value.OfNumber(0)
	m.variables[RLENGTH] = value.OfNumber(-1)
	return m
}

// Step makes a step, if there is one left.
func (m *Machine) Step() {
	if m.fuel == 0 {
		m.GiveUp(fault.ErrFuel)
	}
	m.fuel--
}

// Bounded answers a text, if it is not too long.
func (m *Machine) Bounded(text string) string {
	if len(text) > limit.MaxText {
		m.GiveUp(fault.ErrText)
	}
	return text
}

// Put puts a text out to the stream of that name.
func (m *Machine) Put(name string, text string) { m.Check(m.streams.Put(name, text)) }

// Streams answers what was put out.
func (m *Machine) Streams() []streams.Stream { return m.streams.All() }

// SetCode makes a number the run's code.
func (m *Machine) SetCode(number int64) { m.code = int(byte(number)) }

// Code answers the number of the last SetCode, modulo 256.
func (m *Machine) Code() int { return m.code }
