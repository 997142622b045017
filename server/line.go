package server

import (
	"slices"

	"sealskin/api"
	"sealskin/channel"
	"sealskin/frame"
)

const maxWaiting = 8 // bodies in a channel, beyond which a client is told nothing more

// line is a connection as the server has it.
type line struct {
	end   *channel.Channel
	key   []byte
	told  int              // the revision up to which steps were told
	ahead []api.Msg        // what is to be told ahead of steps
	due   map[int]struct{} // whose cursors are to be told
	quiet int              // ticks without anything told
}

func newLine(conn int, key []byte) *line {
	end, _ := channel.New(conn)
	return &line{end: end, key: key, due: map[int]struct{}{}}
}

// tell lets a message be told, ahead of all steps, as soon as there is room.
func (l *line) tell(m api.Msg) { l.ahead = append(l.ahead, m) }

func (l *line) hasRoom() bool { return l.end.Waiting() < maxWaiting }

func (l *line) send(m api.Msg) {
	body, _ := frame.Put(m)
	l.end.Send(body)
	l.quiet = 0
}

func (l *line) sendAhead() {
	for len(l.ahead) > 0 && l.hasRoom() {
		l.send(l.ahead[0])
		l.ahead = slices.Delete(l.ahead, 0, 1)
	}
}

// tick lets time pass: a client that is in is to hear something now and then.
func (l *line) tick(in bool) {
	l.end.Tick()
	if !in {
		return
	}
	l.quiet++
	if l.quiet == api.Beat && l.end.Waiting() == 0 {
		l.quiet = 0
		l.tell(api.Msg{Kind: api.MBeat})
	}
}

// frames is what goes out now, as bytes.
func (l *line) frames() [][]byte {
	var out [][]byte
	for _, f := range l.end.Out() {
		b, _ := frame.Wrap(l.key, false, f)
		out = append(out, b)
	}
	return out
}
