package patterns

import "slices"

// Find answers the first place at which a match begins, and the length of the
// longest match there; -1 and 0, if there is none.
func (p Pattern) Find(text string) (int, int) {
	lengths := p.Longest(text)
	at := slices.IndexFunc(lengths, func(length int) bool { return length >= 0 })
	if at < 0 {
		return -1, 0
	}
	return at, lengths[at]
}

// Longest answers for each place of a text, and for its end, the length of
// the longest match that begins there; -1, if there is none.
func (p Pattern) Longest(text string) []int {
	s := search{
		states:  p.states,
		reached: make([]int, len(p.states)),
		lengths: slices.Repeat([]int{-1}, len(text)+1),
	}
	s.run(p.last, text)
	return s.lengths
}

// A thread is a way back through the pattern that is still open: the state it
// is at and the place in the text at which the match would end.
type thread struct{ state, end int }

// A search goes through a text once, from its end on, so that it finds the
// matches from all places in one go.
type search struct {
	states  []state
	reached []int // for each state one more than the last place it was reached at
	stack   []int // the states that are still to be followed
	lengths []int // what is answered
}

// run keeps the threads in the order of their ends, the greatest first. So a
// state belongs to the thread that ends last, and of two threads at one state,
// which begin alike, only that one can matter.
func (s *search) run(last int, text string) {
	var open, next []thread
	for at := len(text); ; at-- {
		open = s.follow(open, thread{last, at}, at)
		if at == 0 {
			return
		}
		next = next[:0]
		for _, t := range open {
			if here := &s.states[t.state]; here.set.has(text[at-1]) {
				next = s.follow(next, thread{here.next, t.end}, at-1)
			}
		}
		open, next = next, open
	}
}

// follow adds to the open threads all that come of one at a place without
// taking a byte, and notes a match that begins there.
func (s *search) follow(open []thread, t thread, at int) []thread {
	s.stack = append(s.stack[:0], t.state)
	for len(s.stack) > 0 {
		top := len(s.stack) - 1
		number := s.stack[top]
		s.stack = s.stack[:top]
		if s.reached[number] == at+1 {
			continue
		}
		s.reached[number] = at + 1
		here := &s.states[number]
		switch here.kind {
		case takeByte:
			open = append(open, thread{number, t.end})
		case done:
			s.lengths[at] = t.end - at
		case fork:
			s.stack = append(s.stack, here.other, here.next)
		case needBegin:
			if at == 0 {
				s.stack = append(s.stack, here.next)
			}
		case needEnd:
			if at == len(s.lengths)-1 {
				s.stack = append(s.stack, here.next)
			}
		}
	}
	return open
}
