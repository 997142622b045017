package console

import (
	"sealskin/api"
	"sealskin/client"
	"sealskin/lines"
	"sealskin/match"
)

// tellClient is what a line tells that asks for something of a client.
func (s *stage) tellClient(l line) tale {
	who := l.number[0]
	c := s.world.Client(who)
	if c == nil {
		return outcome(api.ErrArg)
	}
	switch l.word {
	case "show":
		return tellShow(c)
	case "told":
		return tellTold(c)
	case "peers":
		return tellPeers(c)
	case "way":
		return s.tellWay(who)
	case "server":
		return s.tellServer(who)
	case "line":
		return tellLine(c.View(), l.number[1], l.number[2])
	case "find":
		return tellFind(c.View(), l.text)
	}
	return tellGrep(c.View(), l.text)
}

func tellShow(c *client.Client) tale {
	state, conn := c.State()
	return tell("show").join(state, conn, c.Rev(), c.Cursor()).text(c.View())
}

func tellTold(c *client.Client) tale {
	t := tell("told")
	for _, x := range c.Told() {
		t = t.stop().join(x.Seq, int(x.Err))
	}
	return t
}

func tellPeers(c *client.Client) tale {
	t := tell("peers")
	for _, x := range c.Peers() {
		t = t.stop().join(x.Who, x.At)
	}
	return t
}

func (s *stage) tellWay(who int) tale {
	up, down := s.world.Waiting(who)
	return tell("way").join(up, down)
}

func (s *stage) tellServer(who int) tale {
	conn, isOpen, told := s.world.Server().State(who)
	open := 0
	if isOpen {
		open = 1
	}
	return tell("server").join(conn, open, told, s.world.Server().Locked(who))
}

func tellLine(view string, row, column int) tale {
	x, bad := lines.New(view)
	if bad != api.OK {
		return outcome(bad)
	}
	at, bad := x.At(row, column)
	if bad != api.OK {
		return outcome(bad)
	}
	t := tell("line").join(at)
	if from, to, bad := x.Word(at); bad == api.OK {
		t = t.join(from, to)
	}
	s, _ := x.Line(row)
	return t.text(s)
}

func tellFind(view, text string) tale {
	x, bad := lines.New(view)
	if bad != api.OK {
		return outcome(bad)
	}
	places, bad := x.Find(text)
	if bad != api.OK {
		return outcome(bad)
	}
	return tell("find").join(places...)
}

func tellGrep(view, pattern string) tale {
	p, _, bad := match.Compile(pattern)
	if bad != api.OK {
		return outcome(bad)
	}
	all, bad := p.All(view)
	if bad != api.OK {
		return outcome(bad)
	}
	t := tell("grep")
	for _, x := range all {
		t = t.stop().join(x[:2]...) // where it begins and ends; behind that stand the groups
	}
	return t
}

func (s *stage) tellLabel(label int) tale {
	if label >= len(s.names) {
		return outcome(api.ErrLabel)
	}
	c := s.world.Server().Core()
	chars, commits := c.Count(label)
	return tell("label").name(s.names[label]).join(c.Rev(label), chars, commits).text(c.Text(label))
}

func (s *stage) tellAudits() tale {
	c := s.world.Server().Core()
	t := tell("audits")
	for _, a := range c.Audits() {
		t = t.stop().join(a.Who, a.Target, a.At, a.Commit).text(a.Text)
	}
	root := c.Root()
	return t.stop().join(int(root[0])<<8 | int(root[1]))
}
