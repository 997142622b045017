package edit

import (
	"strings"
	"unicode/utf8"

	"sealskin/api"
)

// Apply is what an edit makes of a text.
func Apply(e []api.Part, s string) (string, api.Errno) {
	if !isOf(e, s) {
		return "", api.ErrEdit
	}
	var b strings.Builder
	for _, p := range e {
		switch p.Kind {
		case api.Put:
			b.WriteString(p.Text)
		case api.Keep:
			first, rest := cut(s, p.N)
			b.WriteString(first)
			s = rest
		case api.Drop:
			_, s = cut(s, p.N)
		}
	}
	return b.String(), api.OK
}

// Invert is the edit that undoes one, done to a text. It makes as many as the text has, and is of as many as the edit makes: so it is an edit always.
func Invert(e []api.Part, s string) ([]api.Part, api.Errno) {
	if !isOf(e, s) {
		return nil, api.ErrEdit
	}
	var l []api.Part
	for _, p := range e {
		if p.Kind == api.Put {
			l = append(l, drop(p.N))
			continue
		}
		first, rest := cut(s, p.N)
		s = rest
		if p.Kind == api.Drop {
			p = put(p.N, first)
		}
		l = append(l, p)
	}
	return Norm(l...), api.OK
}

func isOf(e []api.Part, s string) bool {
	return utf8.ValidString(s) && Check(e, utf8.RuneCountInString(s)) == api.OK
}

// cut is a text's first n code points, and the others.
func cut(s string, n int) (first, rest string) {
	at := 0
	for ; n > 0 && at < len(s); n-- {
		_, size := utf8.DecodeRuneInString(s[at:])
		at += size
	}
	return s[:at], s[at:]
}

// Cursor is where a place is behind an edit; what is put just there stands ahead of it, or behind.
func Cursor(e []api.Part, at int, ahead bool) (int, api.Errno) {
	from, _, bad := Size(e)
	if bad != api.OK || !within(at, from) {
		return 0, api.ErrEdit
	}
	to := 0
	for _, p := range e {
		if p.Kind == api.Put {
			if at > 0 || ahead {
				to += p.N
			}
			continue
		}
		passed := min(at, p.N)
		if p.Kind == api.Keep {
			to += passed
		}
		if passed < p.N { // the place is ahead of the rest of this part, and of all that comes behind it
			break
		}
		at -= passed
	}
	return to, api.OK
}
