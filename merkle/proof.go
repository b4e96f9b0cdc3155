package merkle

import (
	"sort"

	"weirgate/api"
)

// Inclusion returns the proof that a list has its element at a position.
func Inclusion(leaves []api.Digest, i int) ([]api.Digest, api.Errno) {
	if i < 0 || i >= len(leaves) {
		return nil, api.ErrArg
	}
	var path []api.Digest
	var prove func(l []api.Digest, i int)
	prove = func(l []api.Digest, i int) {
		if len(l) == 1 {
			return
		}
		first, second := halves(l)
		if i < len(first) {
			prove(first, i)
			path = append(path, Root(second))
		} else {
			prove(second, i-len(first))
			path = append(path, Root(first))
		}
	}
	prove(leaves, i)
	return path, api.OK
}

// Consistency returns the proof that the first elements were the whole list once.
func Consistency(leaves []api.Digest, m int) ([]api.Digest, api.Errno) {
	n := len(leaves)
	if m < 0 || m > n {
		return nil, api.ErrArg
	}
	if m == 0 || m == n {
		return nil, api.OK
	}
	var path []api.Digest
	var prove func(l []api.Digest, m int, whole bool)
	prove = func(l []api.Digest, m int, whole bool) {
		if m == len(l) {
			if !whole {
				path = append(path, Root(l))
			}
			return
		}
		first, second := halves(l)
		if m <= len(first) {
			prove(first, m, whole)
			path = append(path, Root(second))
		} else {
			prove(second, m-len(first), false)
			path = append(path, Root(first))
		}
	}
	prove(leaves, m, true)
	return path, api.OK
}

// Many returns the proof that a list has its elements at several positions.
func Many(leaves []api.Digest, places []int) ([]api.Digest, api.Errno) {
	if !ascending(places, len(leaves)) {
		return nil, api.ErrArg
	}
	var path []api.Digest
	var prove func(l []api.Digest, at int, places []int)
	prove = func(l []api.Digest, at int, places []int) {
		switch {
		case len(places) == 0:
			path = append(path, Root(l))
		case len(l) > 1:
			first, second := halves(l)
			k := before(places, at+len(first))
			prove(first, at, places[:k])
			prove(second, at+len(first), places[k:])
		}
	}
	if len(leaves) > 0 {
		prove(leaves, 0, places)
	}
	return path, api.OK
}

// ascending reports whether places are strictly ascending positions of a list of n elements.
func ascending(places []int, n int) bool {
	last := -1
	for _, p := range places {
		if p <= last || p >= n {
			return false
		}
		last = p
	}
	return true
}

// before returns how many of ascending places are less than an end.
func before(places []int, end int) int { return sort.SearchInts(places, end) }
