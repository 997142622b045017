package match

// Kinds of steps.
const (
	eat   = iota // a code point of a set
	begin        // to be at a line's beginning
	end          // to be at a line's end
	save         // the place
	fork         // here first, then there
	jump
)

// step is one of a program. Where a way goes on behind it is here; the place behind the last step is the program's end.
type step struct {
	kind   int
	number int // eat: which set; save: as which number
	here   int
	there  int // fork
}

// program is steps, with the sets that they eat, and from which steps that eat nothing a way comes to each.
type program struct {
	steps []step
	sets  []set
	from  [][]int
}

// count is how many steps a part has, but no more than one beyond the limit: parts within parts that stand a hundred times each would have more than any number tells.
func count(p part) int {
	n := 0
	for _, x := range p.inner {
		n += count(x)
	}
	switch p.kind {
	case eats, begins, ends:
		n = 1
	case group:
		n += 2
	case rows:
		n += 2 * (len(p.inner) - 1)
	case counted:
		n = p.least*n + countRest(p.times, n)
	}
	return min(n, maxSteps+1)
}

// countRest is how many steps what may stand behind the least times has.
func countRest(t times, n int) int {
	if t.most == endless {
		return n + 2
	}
	return (t.most - t.least) * (n + 1)
}

func build(p part, sets []set) program {
	g := program{sets: sets}
	g.lay(p)
	g.from = make([][]int, len(g.steps)+1)
	for i, s := range g.steps {
		if s.kind == eat {
			continue
		}
		g.from[s.here] = append(g.from[s.here], i)
		if s.kind == fork {
			g.from[s.there] = append(g.from[s.there], i)
		}
	}
	return g
}

// add lays a step, behind which the next one stands, and answers where it is.
func (g *program) add(kind, number int) int {
	at := len(g.steps)
	g.steps = append(g.steps, step{kind: kind, number: number, here: at + 1})
	return at
}

func (g *program) lay(p part) {
	switch p.kind {
	case eats:
		g.add(eat, p.number)
	case begins:
		g.add(begin, 0)
	case ends:
		g.add(end, 0)
	case group:
		g.add(save, 2*p.number)
		g.lay(p.inner[0])
		g.add(save, 2*p.number+1)
	case row:
		for _, x := range p.inner {
			g.lay(x)
		}
	case rows:
		g.layRows(p.inner)
	case counted:
		for range p.least {
			g.lay(p.inner[0])
		}
		g.layRest(p.inner[0], p.times)
	}
}

func (g *program) layRows(l []part) {
	var outs []int
	last := len(l) - 1
	for _, x := range l[:last] {
		f := g.layFork(x)
		outs = append(outs, g.add(jump, 0))
		g.leadOut(f, false)
	}
	g.lay(l[last])
	for _, i := range outs {
		g.steps[i].here = len(g.steps)
	}
}

// layRest lays what may stand behind the least times: a loop, or forks each of which leads out behind all.
func (g *program) layRest(p part, t times) {
	if t.most == endless {
		f := g.layFork(p)
		g.steps[g.add(jump, 0)].here = f
		g.leadOut(f, t.lazy)
		return
	}
	var forks []int
	for range t.most - t.least {
		forks = append(forks, g.layFork(p))
	}
	for _, f := range forks {
		g.leadOut(f, t.lazy)
	}
}

func (g *program) layFork(p part) int {
	f := g.add(fork, 0)
	g.lay(p)
	return f
}

// leadOut lets a fork go on behind all that is laid, if not to what stands behind it; a lazy one the other way.
func (g *program) leadOut(f int, lazy bool) {
	s := &g.steps[f]
	s.there = len(g.steps)
	if lazy {
		s.here, s.there = s.there, s.here
	}
}
