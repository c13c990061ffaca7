// Package glean: a small language that gleans from lines: see DOC.md.
package glean

import (
	"errors"
	"slices"

	"glean/fault"
	"glean/layout"
	"glean/limit"
	"glean/parser"
	"glean/patterns"
	"glean/pieces"
	"glean/run"
	"glean/streams"
	"glean/tree"
	"glean/usage"
	"glean/value"
	"glean/writer"
)

// Errno is what a call answers: OK, the reason for a refusal, or why a run ended early.
type Errno int

const (
	OK        Errno = 0
	ErrLong   Errno = 1  // a text, a list or a number beyond its bound
	ErrForm   Errno = 2  // no program
	ErrUse    Errno = 3  // a name, a call or a word that is used wrongly
	ErrFuel   Errno = 4  // the steps are spent
	ErrZero   Errno = 5  // a division by 0
	ErrField  Errno = 6  // a field that there cannot be
	ErrRegex  Errno = 7  // no pattern
	ErrText   Errno = 8  // a text that has grown too long
	ErrDeep   Errno = 9  // too many calls within calls
	ErrFormat Errno = 10 // no format
	ErrOut    Errno = 11 // too much put out
)

// Stream is what was put out to the stream of that name; the main one has the empty name.
type Stream struct{ Name, Text string }

// Match finds a pattern in a text (P3, P4).
func Match(pattern string, text string) (int, int, Errno) {
	if isLong(pattern) || isLong(text) {
		return 0, 0, ErrLong
	}
	p, ok := patterns.Read(pattern)
	if !ok {
		return 0, 0, ErrRegex
	}
	at, length := p.Find(text)
	return at, length, OK
}

func isLong(text string) bool { return len(text) > limit.MaxText }

// Split cuts a text into pieces (P5).
func Split(text string, separator string) ([]string, Errno) {
	if isLong(text) || isLong(separator) {
		return []string{}, ErrLong
	}
	list, ok := pieces.Cut(text, separator)
	if !ok {
		return []string{}, ErrRegex
	}
	return list, OK
}

// Format makes a text of a format and arguments (P6).
func Format(format string, args []string) (string, Errno) {
	if isLong(format) || len(args) > limit.MaxArgs || slices.ContainsFunc(args, isLong) {
		return "", ErrLong
	}
	values := make([]value.Value, len(args))
	for i, arg := range args {
		values[i] = value.Read(arg)
	}
	text, err := layout.Make(format, values)
	return text, errnoOf(err)
}

// errnoOf answers the number of an error.
func errnoOf(err error) Errno {
	switch {
	case errors.Is(err, fault.ErrFuel):
		return ErrFuel
	case errors.Is(err, fault.ErrZero):
		return ErrZero
	case errors.Is(err, fault.ErrField):
		return ErrField
	case errors.Is(err, fault.ErrRegex):
		return ErrRegex
	case errors.Is(err, fault.ErrText):
		return ErrText
	case errors.Is(err, fault.ErrDeep):
		return ErrDeep
	case errors.Is(err, fault.ErrFormat):
		return ErrFormat
	case errors.Is(err, fault.ErrOut):
		return ErrOut
	}
	return OK
}

// Print writes a program out in one way (P7 to P9).
func Print(program string) (string, Errno, int) {
	read, e, place := readProgram(program)
	if e != OK {
		return "", e, place
	}
	return writer.Write(read), OK, 0
}

// readProgram makes a tree of a program; with an error it answers the place
// too.
func readProgram(program string) (tree.Program, Errno, int) {
	if len(program) > limit.MaxProgram {
		return tree.Program{}, ErrLong, 0
	}
	read, place, ok := parser.Read(program)
	if !ok {
		return tree.Program{}, ErrForm, place
	}
	if place, wrong := usage.LeastWrong(read); wrong {
		return tree.Program{}, ErrUse, place
	}
	return read, OK, 0
}

// Run runs a program over an input (P10 to P20).
func Run(program string, input string, fuel int) ([]Stream, int, Errno, int) {
	if len(input) > limit.MaxInput || fuel < 0 || fuel > limit.MaxFuel {
		return []Stream{}, 0, ErrLong, 0
	}
	read, e, place := readProgram(program)
	if e != OK {
		return []Stream{}, 0, e, place
	}
	outcome := run.Run(read, input, fuel)
	return streamsOf(outcome.Streams), outcome.Code, errnoOf(outcome.Reason), 0
}

func streamsOf(list []streams.Stream) []Stream {
	made := make([]Stream, len(list))
	for i, s := range list {
		made[i] = Stream{Name: s.Name, Text: string(s.Text)}
	}
	return made
}
