// Package lattice is layer 1: see ../../shared/doc/01-lattice.md.
package lattice

import (
	"math"
	"slices"

	"sealskin/api"
)

// Check tells whether a label may be.
func Check(l api.Label) api.Errno {
	if !within(l.Level, 0, api.MaxLevel) {
		return api.ErrLabel
	}
	return api.OK
}

// Below tells whether a label is below another one, or is it.
func Below(a, b api.Label) bool {
	return a.Level <= b.Level && a.Comps&^b.Comps == 0
}

// Join is the least label above all; Meet the greatest one below all. Both begin at the first label: one that may not be, of a level below 0 or above 15, counts as it is.
func Join(l ...api.Label) api.Label {
	if len(l) == 0 {
		return api.Label{}
	}
	top := l[0]
	for _, x := range l[1:] {
		top.Level = max(top.Level, x.Level)
		top.Comps |= x.Comps
	}
	return top
}

func Meet(l ...api.Label) api.Label {
	if len(l) == 0 {
		return api.Label{Level: api.MaxLevel, Comps: math.MaxUint32}
	}
	bottom := l[0]
	for _, x := range l[1:] {
		bottom.Level = min(bottom.Level, x.Level)
		bottom.Comps &= x.Comps
	}
	return bottom
}

// Right tells whether a policy may be.
func Right(p api.Policy) api.Errno {
	n := len(p.Labels)
	if !rightLabels(p.Labels) || !rightQuotas(p.Quotas, n) || !rightEntries(p.Entries, n) {
		return api.ErrPolicy
	}
	return api.OK
}

// rightLabels counts them ahead of holding each against all others, so that a long list costs nothing.
func rightLabels(l []api.Label) bool {
	if !within(len(l), 1, api.MaxLabels) {
		return false
	}
	for i, x := range l {
		if Check(x) != api.OK || slices.Contains(l[:i], x) {
			return false
		}
	}
	return true
}

func rightQuotas(l []api.Quota, labels int) bool {
	if len(l) != labels {
		return false
	}
	for _, q := range l {
		if !rightQuota(q) {
			return false
		}
	}
	return true
}

func rightQuota(q api.Quota) bool {
	return within(q.Chars, 0, api.MaxQuota) && within(q.Ops, 0, api.MaxQuota) && within(q.Seats, 0, api.MaxQuota)
}

func rightEntries(l []api.Entry, labels int) bool {
	if !within(len(l), 1, api.MaxClients) {
		return false
	}
	for _, e := range l {
		if !within(e.Label, 0, labels-1) || !within(len(e.Secret), 1, api.MaxSecret) {
			return false
		}
	}
	return true
}

func within(n, lo, hi int) bool { return lo <= n && n <= hi }

// Sees tells whether who works at one of a policy's labels sees text of another one.
func Sees(p api.Policy, viewer, writer int) bool {
	return isPlace(p, viewer) && isPlace(p, writer) && Below(p.Labels[writer], p.Labels[viewer])
}

func isPlace(p api.Policy, i int) bool { return within(i, 0, len(p.Labels)-1) }

// Viewers is the labels at which text of one is seen.
func Viewers(p api.Policy, writer int) []int {
	return places(p, func(i int) bool { return Sees(p, i, writer) })
}

// Seen is the labels whose text is seen at one.
func Seen(p api.Policy, viewer int) []int {
	return places(p, func(i int) bool { return Sees(p, viewer, i) })
}

func places(p api.Policy, wanted func(int) bool) []int {
	var l []int
	for i := range p.Labels {
		if wanted(i) {
			l = append(l, i)
		}
	}
	return l
}

// At is where a label stands in a policy.
func At(p api.Policy, l api.Label) (int, bool) {
	i := slices.Index(p.Labels, l)
	if i < 0 {
		return 0, false
	}
	return i, true
}

// Clone is a policy in memory of its own.
func Clone(p api.Policy) api.Policy {
	return api.Policy{
		Labels:  slices.Clone(p.Labels),
		Quotas:  slices.Clone(p.Quotas),
		Entries: slices.Clone(p.Entries),
	}
}
