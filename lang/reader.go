package lang

import (
	"slices"
	"strings"

	"sealskin/api"
	"sealskin/lattice"
)

// names is the labels' names, in the order of the labels.
type names []string

// place is where a name stands, or -1.
func (n names) place(name string) int { return slices.Index(n, name) }

// bring makes a name known, if it is one, and is new.
func (n *names) bring(name string) bool {
	if !isName(name) || n.place(name) >= 0 {
		return false
	}
	*n = append(*n, name)
	return true
}

// reader is what the lines so far make, with the names that they brought.
type reader struct {
	names
	policy api.Policy
	told   [api.MaxLabels]bool // which labels have a line of a quota
}

// line takes a line in; false, if it is none.
func (r *reader) line(s string) bool {
	if s == "" || s[0] == '#' {
		return true
	}
	w := strings.Split(s, " ")
	switch w[0] {
	case "label":
		return r.label(w)
	case "quota":
		return r.quota(w)
	case "client":
		return r.client(w)
	}
	return false
}

func (r *reader) label(w []string) bool {
	l, ok := readLabel(w)
	if !ok || lattice.Check(l) != api.OK || len(r.names) == api.MaxLabels {
		return false
	}
	if _, known := lattice.At(r.policy, l); known {
		return false
	}
	r.policy.Labels = append(r.policy.Labels, l)
	r.policy.Quotas = append(r.policy.Quotas, api.Quota{Chars: api.MaxQuota, Ops: api.MaxQuota, Seats: api.MaxQuota})
	return r.bring(w[1])
}

func readLabel(w []string) (api.Label, bool) {
	many := shaped(w, "label", "", "level", "", "comps", "")
	if !many && !shaped(w, "label", "", "level", "") {
		return api.Label{}, false
	}
	level, ok := number(w[3])
	if !ok || !many {
		return api.Label{Level: level}, ok
	}
	comps, ok := readComps(w[5])
	return api.Label{Level: level, Comps: comps}, ok
}

func (r *reader) quota(w []string) bool {
	if !shaped(w, "quota", "", "chars", "", "ops", "", "seats", "") {
		return false
	}
	at := r.place(w[1])
	if at < 0 || r.told[at] {
		return false
	}
	var q [3]int
	for i := range q {
		n, ok := number(w[3+2*i])
		if !ok || n > api.MaxQuota {
			return false
		}
		q[i] = n
	}
	r.told[at] = true
	r.policy.Quotas[at] = api.Quota{Chars: q[0], Ops: q[1], Seats: q[2]}
	return true
}

func (r *reader) client(w []string) bool {
	down := shaped(w, "client", "", "secret", "", "down")
	if !down && !shaped(w, "client", "", "secret", "") {
		return false
	}
	at := r.place(w[1])
	secret, ok := readSecret(w[3])
	if at < 0 || !ok || len(r.policy.Entries) == api.MaxClients {
		return false
	}
	r.policy.Entries = append(r.policy.Entries, api.Entry{Label: at, Secret: secret, Down: down})
	return true
}

// shaped tells whether words are those of a form, in which an empty one stands for any.
func shaped(w []string, form ...string) bool {
	return slices.EqualFunc(w, form, func(word, want string) bool { return want == "" || word == want })
}
