package match

import "slices"

// search is a pattern in a text. A step is alive at a place, if a way leads from there to the program's end. What is alive is worked out once, from the text's end to its beginning; from then on ways go over what is alive alone, and so none goes far in vain: all that is found in a text takes time by its length and the program's, whatever the pattern.
type search struct {
	*Pattern
	text  []rune
	alive []bool // of each place each step, and the end
	seen  []int  // of each step in which turn a way came to it last
	turn  int    // how many places ways came to
	saved []int
}

func newSearch(p *Pattern, text []rune) *search {
	wide := len(p.steps) + 1
	s := &search{Pattern: p, text: text, alive: make([]bool, wide*(len(text)+1)), seen: make([]int, wide)}
	has := make([]bool, len(p.sets))
	for at := len(text); at >= 0; at-- {
		s.mark(len(s.steps), at)
		if at == len(text) {
			continue
		}
		for i, is := range s.sets {
			has[i] = is(text[at])
		}
		for i, x := range s.steps {
			if x.kind == eat && has[x.number] && s.lives(x.here, at+1) {
				s.mark(i, at)
			}
		}
	}
	return s
}

func (s *search) place(step, at int) int { return at*(len(s.steps)+1) + step }

func (s *search) lives(step, at int) bool { return s.alive[s.place(step, at)] }

// mark makes a step alive, and all from which a way comes to it at that place.
func (s *search) mark(step, at int) {
	if s.lives(step, at) {
		return
	}
	s.alive[s.place(step, at)] = true
	for _, i := range s.from[step] {
		if s.lets(i, at) {
			s.mark(i, at)
		}
	}
}

// lets tells whether a step that eats nothing lets a way go on at a place.
func (s *search) lets(step, at int) bool {
	switch s.steps[step].kind {
	case begin:
		return at == 0 || s.text[at-1] == newline
	case end:
		return at == len(s.text) || s.text[at] == newline
	}
	return true
}

func (s *search) find(from int) []int {
	for at := from; at <= len(s.text); at++ {
		if s.lives(0, at) {
			return s.first(at)
		}
	}
	return nil
}

func (s *search) all() [][]int {
	var l [][]int
	for from := 0; from <= len(s.text); {
		x := s.find(from)
		if x == nil {
			break
		}
		l = append(l, x)
		from = x[1]
		if x[0] == x[1] {
			from++
		}
	}
	return l
}

// first is what the first way from a place saved.
func (s *search) first(at int) []int {
	s.saved = slices.Repeat([]int{-1}, 2*s.groups+2)
	s.saved[0] = at
	for step := s.leave(0, at); step < len(s.steps); step = s.leave(step+1, at) {
		at++
	}
	s.saved[1] = at
	return s.saved
}

// leave is the step at which the first way from a step leaves a place: one that eats what stands there, or the end. There is one, if the step is alive: what is alive leads to such a step, and to leave out what was seen cuts off only what was tried.
func (s *search) leave(step, at int) int {
	s.turn++
	out, _ := s.try(step, at)
	return out
}

// try goes on from a step at a place, and comes back, if no way leaves it.
func (s *search) try(i, at int) (int, bool) {
	if !s.lives(i, at) || s.seen[i] == s.turn {
		return 0, false
	}
	s.seen[i] = s.turn
	if i == len(s.steps) || s.steps[i].kind == eat {
		return i, true
	}
	x := s.steps[i]
	if x.kind == save {
		return s.trySave(x, at)
	}
	out, ok := s.try(x.here, at)
	if !ok && x.kind == fork {
		return s.try(x.there, at)
	}
	return out, ok
}

// trySave forgets the place again, if that way comes back.
func (s *search) trySave(x step, at int) (int, bool) {
	last := s.saved[x.number]
	s.saved[x.number] = at
	out, ok := s.try(x.here, at)
	if !ok {
		s.saved[x.number] = last
	}
	return out, ok
}
