package audit

import (
	"math/bits"

	"sealskin/api"
	"sealskin/hash"
)

func nothing() api.Sum { return hash.Of() }

func leaf(data []byte) api.Sum { return hash.Of([]byte{0}, data) }

func knot(left, right api.Sum) api.Sum { return hash.Of([]byte{1}, left[:], right[:]) }

// half is the greatest power of two below n, which must be above 1.
func half(n int) int { return 1 << (bits.Len(uint(n-1)) - 1) }

// stretches is digests of stretches of one length.
type stretches []api.Sum

// pair is the digest of the last two together, if they are the two halves of a greater stretch.
func (s stretches) pair() (api.Sum, bool) {
	n := len(s)
	if n%2 == 1 {
		return api.Sum{}, false
	}
	return knot(s[n-2], s[n-1]), true
}

// climb takes in the digest of one more entry, and those of all stretches that are whole with it.
func (l *Log) climb(sum api.Sum) {
	for h, whole := 0, true; whole; h++ {
		if h == len(l.heights) {
			l.heights = append(l.heights, nil)
		}
		l.heights[h] = append(l.heights[h], sum)
		sum, whole = l.heights[h].pair()
	}
}

// digest is that of n entries, 1 or more. They begin at a multiple of the least power of two that is not below n, as all stretches do into which halves part those from the first entry on: so each that has a power of two of entries stands at its height.
func (l *Log) digest(from, n int) api.Sum {
	if n&(n-1) == 0 {
		return l.heights[bits.Len(uint(n))-1][from/n]
	}
	k := half(n)
	return knot(l.digest(from, k), l.digest(from+k, n-k))
}

// beside is the digests of all that stands beside the i-th of n entries, the nearest one first.
func (l *Log) beside(from, i, n int) []api.Sum {
	if n == 1 {
		return nil
	}
	k := half(n)
	if i < k {
		return append(l.beside(from, i, k), l.digest(from+k, n-k))
	}
	return append(l.beside(from+k, i-k, n-k), l.digest(from, k))
}

// lead is where a proof leads from the digest of the i-th of n entries on, and whether it has as many digests as that takes.
func lead(sum api.Sum, i, n int, proof []api.Sum) (api.Sum, bool) {
	if n == 1 {
		return sum, len(proof) == 0
	}
	if len(proof) == 0 {
		return api.Sum{}, false
	}
	rest, last := cutLast(proof)
	k := half(n)
	if i < k {
		left, whole := lead(sum, i, k, rest)
		return knot(left, last), whole
	}
	right, whole := lead(sum, i-k, n-k, rest)
	return knot(last, right), whole
}

func cutLast(proof []api.Sum) ([]api.Sum, api.Sum) {
	n := len(proof) - 1
	return proof[:n], proof[n]
}

// behind is the digests by which the first m of n entries become all of them; known is whether that of these m is at hand.
func (l *Log) behind(from, m, n int, known bool) []api.Sum {
	if m == n {
		if known {
			return nil
		}
		return []api.Sum{l.digest(from, n)}
	}
	k := half(n)
	if m <= k {
		return append(l.behind(from, m, k, known), l.digest(from+k, n-k))
	}
	return append(l.behind(from+k, m-k, n-k, false), l.digest(from, k))
}

// leadBoth is where a proof leads for the first m of n entries, and for all of them, and whether it has as many digests as that takes. The digest of these m is nil, if it is not known.
func leadBoth(known *api.Sum, m, n int, proof []api.Sum) (was, is api.Sum, whole bool) {
	if m == n && known != nil {
		return *known, *known, len(proof) == 0
	}
	if len(proof) == 0 {
		return api.Sum{}, api.Sum{}, false
	}
	rest, last := cutLast(proof)
	if m == n {
		return last, last, len(rest) == 0
	}
	k := half(n)
	if m <= k {
		was, is, whole = leadBoth(known, m, k, rest)
		return was, knot(is, last), whole
	}
	was, is, whole = leadBoth(nil, m-k, n-k, rest)
	return knot(last, was), knot(last, is), whole
}
