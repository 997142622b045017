package core

import (
	"sealskin/api"
	"sealskin/octet"
)

const maxRecordParts = 1600 // of a record's edit, as bytes

// Entry is what was let down as bytes.
func Entry(a api.Audit) []byte {
	return octet.PutText(octet.Put(nil, a.Who, a.Target, a.At, a.Commit), a.Text)
}

// Put is a record as bytes.
func Put(r api.Record) []byte {
	b := octet.Put(nil, r.Kind, r.Who, r.Seq, r.At, r.N, r.Target, len(r.Edit))
	for _, p := range r.Edit {
		b = append(b, octet.PutText(octet.Put(nil, p.Kind, p.N), p.Text)...)
	}
	return b
}

// Get is the record that bytes are.
func Get(b []byte) (api.Record, api.Errno) {
	r := octet.Read(b)
	record := api.Record{
		Kind:   r.Number(),
		Who:    r.Number(),
		Seq:    r.Number(),
		At:     r.Number(),
		N:      r.Number(),
		Target: r.Number(),
		Edit:   readEdit(r),
	}
	if r.End() != api.OK {
		return api.Record{}, api.ErrJournal
	}
	return record, api.OK
}

// readEdit ends even where bytes are wrong: the reader's first error stays, and whoever asked for the edit looks for it.
func readEdit(r *octet.Reader) []api.Part {
	var e []api.Part
	for range r.Within(0, maxRecordParts) {
		e = append(e, api.Part{Kind: r.Number(), N: r.Number(), Text: r.Text(api.MaxText)})
	}
	return e
}
