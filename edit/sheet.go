package edit

import (
	"strings"

	"sealskin/api"
)

// sheet is parts in their one form, and what comes behind them that may still grow: a stretch that is kept, or what is put and dropped at one place. The texts wait in a builder, so that many short ones cost no more than a long one.
type sheet struct {
	done  []api.Part
	kept  int
	drops int
	puts  int
	text  strings.Builder
}

func (s *sheet) add(p api.Part) {
	switch p.Kind {
	case api.Keep:
		s.endChange()
		s.kept = plus(s.kept, p.N)
	case api.Drop:
		s.endKeep()
		s.drops = plus(s.drops, p.N)
	case api.Put:
		s.endKeep()
		s.puts = plus(s.puts, p.N)
		s.text.WriteString(p.Text)
	}
}

func (s *sheet) all() []api.Part {
	s.endKeep()
	s.endChange()
	return s.done
}

func (s *sheet) endKeep() {
	if s.kept > 0 {
		s.done = append(s.done, keep(s.kept))
	}
	s.kept = 0
}

func (s *sheet) endChange() {
	if s.puts > 0 {
		s.done = append(s.done, put(s.puts, s.text.String()))
	}
	if s.drops > 0 {
		s.done = append(s.done, drop(s.drops))
	}
	s.puts, s.drops = 0, 0
	s.text.Reset()
}
