package patterns

// Find answers the first place, from the place from on, at which a match
// begins, and the length of the longest match there; -1 and 0, if there is
// none.
func (p Pattern) Find(text string, from int) (int, int) {
	return p.find(text, from, 0)
}

// FindFilled is as Find, but an empty match counts for none.
func (p Pattern) FindFilled(text string, from int) (int, int) {
	return p.find(text, from, 1)
}

// A thread is a way through the pattern that is still open: the state it is
// at and the place in the text at which it began.
type thread struct{ state, begin int }

// A search goes through a text once.
type search struct {
	states  []state
	text    string
	least   int   // a shorter match counts for none
	reached []int // for each state one more than the last place it was reached at
	stack   []int // the states that are still to be followed
	begin   int   // the best match so far; -1: none
	length  int
}

func (p Pattern) find(text string, from int, least int) (int, int) {
	s := search{
		states:  p.states,
		text:    text,
		least:   least,
		reached: make([]int, len(p.states)),
		begin:   -1,
	}
	s.run(p.first, from)
	return s.begin, s.length
}

// run keeps the threads in the order of their beginnings. So a state belongs
// to the thread that began first, and of two threads at one state, which end
// alike, only that one can matter.
func (s *search) run(first int, from int) {
	var open, next []thread
	for at := from; at <= len(s.text); at++ {
		if s.begin < 0 {
			open = s.follow(open, thread{first, at}, at)
		}
		if at == len(s.text) || len(open) == 0 && s.begin >= 0 {
			return
		}
		next = next[:0]
		for _, t := range open {
			if s.begin >= 0 && t.begin > s.begin {
				break
			}
			if here := &s.states[t.state]; here.set.has(s.text[at]) {
				next = s.follow(next, thread{here.next, t.begin}, at+1)
			}
		}
		open, next = next, open
	}
}

// follow adds to the open threads all that come of one at a place without
// taking a byte, and notes a match that ends there.
func (s *search) follow(open []thread, t thread, at int) []thread {
	s.stack = append(s.stack[:0], t.state)
	for len(s.stack) > 0 {
		last := len(s.stack) - 1
		number := s.stack[last]
		s.stack = s.stack[:last]
		if s.reached[number] == at+1 {
			continue
		}
		s.reached[number] = at + 1
		here := &s.states[number]
		switch here.kind {
		case takeByte:
			open = append(open, thread{number, t.begin})
		case done:
			s.note(t.begin, at)
		case fork:
			s.stack = append(s.stack, here.other, here.next)
		case needBegin:
			if at == 0 {
				s.stack = append(s.stack, here.next)
			}
		case needEnd:
			if at == len(s.text) {
				s.stack = append(s.stack, here.next)
			}
		}
	}
	return open
}

// note keeps a match, if it begins ahead of the best one so far or with it:
// with it, it is the longer one, for it ends later.
func (s *search) note(begin int, end int) {
	if end-begin >= s.least && (s.begin < 0 || begin <= s.begin) {
		s.begin = begin
		s.length = end - begin
	}
}
