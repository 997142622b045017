package watch

import (
	"bytes"
	"slices"

	"sealskin/api"
	"sealskin/octet"
)

// Until is up to where two scripts are alike for those who work at a label, by what was let down: how many events that stay.
func Until(a, b []api.Release, most int) int {
	n := common(a, b, isSameRelease)
	rest := slices.Concat(a[n:min(n+1, len(a))], b[n:min(n+1, len(b))])
	for _, r := range rest {
		most = min(most, r.Before)
	}
	return most
}

// Alike is how many of the first observations of two are the same.
func Alike(a, b [][]api.Shot) int {
	return common(a, b, func(x, y []api.Shot) bool { return slices.EqualFunc(x, y, isSameShot) })
}

// common is how many of the first of two lists are the same.
func common[T any](a, b []T, isSame func(x, y T) bool) int {
	n := 0
	for n < min(len(a), len(b)) && isSame(a[n], b[n]) {
		n++
	}
	return n
}

func isSameRelease(x, y api.Release) bool {
	return x.Before == y.Before && x.Who == y.Who && x.Target == y.Target && slices.Equal(x.Edit, y.Edit)
}

func isSameShot(x, y api.Shot) bool {
	return x.Client == y.Client && x.View == y.View && x.Rev == y.Rev && x.State == y.State && x.Cursor == y.Cursor &&
		slices.Equal(x.Peers, y.Peers) && slices.Equal(x.Told, y.Told) && bytes.Equal(x.Got, y.Got)
}

// Put is a shot as bytes.
func Put(s api.Shot) []byte {
	b := octet.PutText(octet.Put(nil, s.Client, s.Rev, s.State, s.Cursor), s.View)
	l := []int{len(s.Peers)}
	for _, x := range s.Peers {
		l = append(l, x.Who, x.At)
	}
	l = append(l, len(s.Told))
	for _, x := range s.Told {
		l = append(l, x.Seq, int(x.Err))
	}
	return octet.PutBytes(octet.Put(b, l...), s.Got)
}
