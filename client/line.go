package client

import (
	"sealskin/api"
	"sealskin/channel"
	"sealskin/frame"
)

const maxTalk = 4 // bodies in the channel, from which on a cursor waits

// line is a connection as the client has it.
type line struct {
	conn int // the last one; 0: there was none
	end  *channel.Channel
	key  []byte
	came int // ticks without anything that came
	said int // ticks without anything said
}

func newLine(secret string, who, conn int) line {
	end, _ := channel.New(conn)
	return line{conn: conn, end: end, key: frame.Key(secret, who, conn)}
}

// drop lets the end be no more: nothing goes out or comes in until there is a new one.
func (l *line) drop() { l.end = nil }

// hasRoom tells whether something may be said that is of no weight.
func (l *line) hasRoom() bool { return l.end.Waiting() < maxTalk }

// say sends a message, and tells whether that could be; if not, it is lost.
func (l *line) say(m api.Msg) bool {
	l.said = 0
	body, bad := frame.Put(m)
	return bad == api.OK && l.end.Send(body) == api.OK
}

// hear is the messages that bytes bring.
func (l *line) hear(b []byte) ([]api.Msg, api.Errno) {
	head, bad := frame.Peek(b)
	if bad != api.OK {
		return nil, bad
	}
	if l.end == nil || head.Conn != l.conn {
		return nil, api.ErrConn
	}
	f, bad := frame.Unwrap(l.key, false, b)
	if bad != api.OK {
		return nil, bad
	}
	bodies, bad := l.end.Take(f)
	if bad != api.OK {
		return nil, bad
	}
	l.came = 0
	return messages(bodies), api.OK
}

// messages is those that bodies are; one that is none says nothing.
func messages(bodies [][]byte) []api.Msg {
	var l []api.Msg
	for _, b := range bodies {
		if m, bad := frame.Get(b); bad == api.OK {
			l = append(l, m)
		}
	}
	return l
}

// wait lets time pass at an end, and tells whether nothing came for too long.
func (l *line) wait() bool {
	l.end.Tick()
	l.came++
	return l.came >= api.Silence
}

// beat says that the client is there, if it said nothing for long, and nothing waits that is sent again anyway.
func (l *line) beat() {
	l.said++
	if l.said >= api.Beat && l.end.Waiting() == 0 {
		l.say(api.Msg{Kind: api.MBeat})
	}
}

// frames is what goes out now, as bytes.
func (l *line) frames() [][]byte {
	var out [][]byte
	for _, f := range l.end.Out() {
		b, _ := frame.Wrap(l.key, true, f)
		out = append(out, b)
	}
	return out
}
