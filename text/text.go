// Package text holds what the layers share that work on texts: their code points, and stretches of them that become other texts.
package text

import (
	"unicode/utf8"

	"sealskin/api"
	"sealskin/edit"
)

// Runes is a text's code points, at most so many. They are counted ahead of being laid out, so that a text that is far too long takes no room.
func Runes(s string, most int) ([]rune, api.Errno) {
	if !utf8.ValidString(s) {
		return nil, api.ErrText
	}
	if utf8.RuneCountInString(s) > most {
		return nil, api.ErrLong
	}
	return []rune(s), api.OK
}

// Patch is stretches of a text, rising and apart, that become other texts.
type Patch struct {
	at    int
	parts []api.Part
}

// Put lets a stretch become a text; it begins where the last one ended, or behind that.
func (p *Patch) Put(from, to int, s string) {
	p.parts = append(p.parts,
		api.Part{Kind: api.Keep, N: from - p.at},
		api.Part{Kind: api.Put, N: utf8.RuneCountInString(s), Text: s},
		api.Part{Kind: api.Drop, N: to - from})
	p.at = to
}

// Edit is the edit of a text of so many code points that does it. Parts of no code points do not fit, and so edit.Norm leaves them out.
func (p *Patch) Edit(size int) []api.Part {
	rest := api.Part{Kind: api.Keep, N: size - p.at}
	return edit.Norm(append(p.parts, rest)...)
}
