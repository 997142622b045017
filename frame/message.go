package frame

import (
	"sealskin/api"
	"sealskin/edit"
	"sealskin/octet"
)

// What a message may have beside its kind: its numbers, in the order in which they stand as bytes, and an edit.
const (
	hasWho = 1 << iota
	hasSeq
	hasRev
	hasAt
	hasN
	hasTarget
	hasErr
	hasEdit
)

// fields is what the messages of each kind have.
var fields = [...]int{
	api.MLogin:  hasRev,
	api.MEdit:   hasSeq | hasRev | hasEdit,
	api.MDown:   hasSeq | hasRev | hasAt | hasN | hasTarget,
	api.MCursor: hasRev | hasAt,
	api.MBeat:   0,
	api.MBye:    hasErr,
	api.MHello:  hasRev | hasSeq,
	api.MStep:   hasRev | hasWho | hasSeq | hasEdit,
	api.MRefuse: hasSeq | hasErr,
	api.MPeer:   hasWho | hasRev | hasAt,
}

// most is how great each number may be, in their order.
var most = [...]int{api.MaxClients - 1, api.MaxIndex, api.MaxIndex, api.MaxIndex, api.MaxIndex, api.MaxLabels - 1, 1000}

// Light tells whether an edit may be told: parts and code points are not too many.
func Light(e []api.Part) bool {
	if len(e) > api.MaxParts {
		return false
	}
	_, _, bad := edit.Size(e)
	puts, _ := edit.Weight(e)
	return bad == api.OK && puts <= api.MaxText
}

// Check tells whether a message may be.
func Check(m api.Msg) api.Errno {
	if m.Kind < api.MLogin || m.Kind > api.MPeer {
		return api.ErrForm
	}
	has := fields[m.Kind]
	for i, n := range [...]int{m.Who, m.Seq, m.Rev, m.At, m.N, m.Target, int(m.Err)} {
		limit := 0
		if has>>i&1 == 1 {
			limit = most[i]
		}
		if !within(n, 0, limit) {
			return api.ErrForm
		}
	}
	if has&hasEdit == 0 && len(m.Edit) > 0 || !Light(m.Edit) {
		return api.ErrForm
	}
	return api.OK
}

// Put is a message as bytes.
func Put(m api.Msg) ([]byte, api.Errno) {
	if bad := Check(m); bad != api.OK {
		return nil, bad
	}
	b := octet.Put(nil, m.Kind, m.Who, m.Seq, m.Rev, m.At, m.N, m.Target, int(m.Err), len(m.Edit))
	for _, p := range m.Edit {
		b = append(b, octet.PutText(octet.Put(nil, p.Kind, p.N), p.Text)...)
	}
	return b, api.OK
}

// Get is the message that bytes are.
func Get(b []byte) (api.Msg, api.Errno) {
	r := octet.Read(b)
	m := api.Msg{
		Kind:   r.Number(),
		Who:    r.Number(),
		Seq:    r.Number(),
		Rev:    r.Number(),
		At:     r.Number(),
		N:      r.Number(),
		Target: r.Number(),
		Err:    api.Errno(r.Number()),
		Edit:   readEdit(r),
	}
	if r.End() != api.OK || Check(m) != api.OK {
		return api.Msg{}, api.ErrForm
	}
	return m, api.OK
}

// readEdit ends even where bytes are wrong: the reader's first error stays, and whoever asked for the edit looks for it.
func readEdit(r *octet.Reader) []api.Part {
	var e []api.Part
	for range r.Within(0, api.MaxParts) {
		e = append(e, api.Part{Kind: r.Number(), N: r.Number(), Text: r.Text(api.MaxText)})
	}
	return e
}
