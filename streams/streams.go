// Package streams holds what a run puts out.
package streams

import (
	"strings"

	"glean/fault"
	"glean/limit"
)

// A Stream is what was put out to the stream of that name.
type Stream struct {
	Name string
	Text []byte
}

// Streams are the main one, whose name is empty, and the others in the order
// of the first time.
type Streams struct {
	list []Stream
	size int // the bytes in all
}

// New makes the main stream.
func New() Streams { return Streams{list: []Stream{{}}} }

// Put puts a text out to the stream of that name; fault.ErrOut, if then more
// than limit.MaxOut bytes would have been put out.
func (s *Streams) Put(name string, text string) error {
	if s.size+len(text) > limit.MaxOut {
		return fault.ErrOut
	}
	s.size += len(text)
	to := s.named(name)
	to.Text = append(to.Text, text...)
	return nil
}

// named finds the stream of that name, or begins it.
func (s *Streams) named(name string) *Stream {
	for i := range s.list {
		if s.list[i].Name == name {
			return &s.list[i]
		}
	}
	// The name may be a part of the input or of the program, with which an
	// answer shares no memory.
	s.list = append(s.list, Stream{Name: strings.Clone(name)})
	return &s.list[len(s.list)-1]
}

// All answers the streams.
func (s *Streams) All() []Stream { return s.list }
