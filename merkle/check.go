package merkle

import "weirgate/api"

// reader takes the digests of a path one after the other.
type reader struct {
	rest  []api.Digest
	short bool // more was taken than there was
}

func (r *reader) next() api.Digest {
	if len(r.rest) == 0 {
		r.short = true
		return api.Digest{}
	}
	d := r.rest[0]
	r.rest = r.rest[1:]
	return d
}

// done reports whether exactly the whole path was taken.
func (r *reader) done() bool { return !r.short && len(r.rest) == 0 }

// CheckInclusion checks such a proof.
func CheckInclusion(leaf api.Digest, i, n int, path []api.Digest, root api.Digest) (ok bool) {
	if n < 1 || n > api.MaxLeaves || i < 0 || i >= n {
		return false
	}
	r := reader{rest: path}
	defer func() { ok = ok && r.done() }()
	return climb(&r, leaf, i, n) == root
}

// climb returns the root of a part of n elements, of which the one at the position i is the leaf.
func climb(r *reader, leaf api.Digest, i, n int) api.Digest {
	if n == 1 {
		return leaf
	}
	k := firstPart(n)
	if i < k {
		first := climb(r, leaf, i, k)
		return Node(first, r.next())
	}
	second := climb(r, leaf, i-k, n-k)
	return Node(r.next(), second)
}

// CheckConsistency checks such a proof.
func CheckConsistency(m, n int, old, root api.Digest, path []api.Digest) (ok bool) {
	if m < 0 || m > n || n > api.MaxLeaves {
		return false
	}
	r := reader{rest: path}
	defer func() { ok = ok && r.done() }()
	switch m {
	case 0:
		return old == Root(nil)
	case n:
		return old == root
	}
	was, is := grow(&r, old, m, n, true)
	return was == old && is == root
}

// grow returns the roots of the first m elements of a part, and of all its n elements; whole says that these m elements were the whole list, whose root is old.
func grow(r *reader, old api.Digest, m, n int, whole bool) (was, is api.Digest) {
	if m == n {
		if whole {
			return old, old
		}
		d := r.next()
		return d, d
	}
	k := firstPart(n)
	if m <= k {
		was, is = grow(r, old, m, k, whole)
		return was, Node(is, r.next())
	}
	was, is = grow(r, old, m-k, n-k, false)
	first := r.next()
	return Node(first, was), Node(first, is)
}

// CheckMany checks such a proof.
func CheckMany(n int, places []int, found, path []api.Digest, root api.Digest) (ok bool) {
	if n < 0 || n > api.MaxLeaves || !ascending(places, n) || len(found) != len(places) {
		return false
	}
	r := reader{rest: path}
	defer func() { ok = ok && r.done() }()
	if n == 0 {
		return root == Root(nil)
	}
	return gather(&r, 0, n, places, found) == root
}

// gather returns the root of a part of n elements from a position on, which has the found elements at places.
func gather(r *reader, at, n int, places []int, found []api.Digest) api.Digest {
	switch {
	case len(places) == 0:
		return r.next()
	case n == 1:
		return found[0]
	}
	k := firstPart(n)
	split := before(places, at+k)
	first := gather(r, at, k, places[:split], found[:split])
	return Node(first, gather(r, at+k, n-k, places[split:], found[split:]))
}
