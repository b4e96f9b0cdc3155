package epoch

import (
	"iter"
	"maps"
	"slices"
	"strings"

	"weirgate/address"
	"weirgate/api"
)

// Table answers for a chain.
type Table struct {
	last    int
	purged  map[target]int // until when (not included) copies are hit: the end of the last epoch, and one more
	revoked map[api.Digest]bool
}

// target is what a purge says, apart from when.
type target struct {
	kind int
	what string
	soft bool
}

// Fold returns the table of a chain.
func Fold(l []api.Epoch) Table {
	var t Table
	for _, e := range l {
		t.put(e)
	}
	return t
}

// Add returns the table with an epoch.
func (t Table) Add(e api.Epoch) Table {
	t.purged, t.revoked = maps.Clone(t.purged), maps.Clone(t.revoked)
	t.put(e)
	return t
}

// State returns what the epochs make of a copy.
func (t Table) State(s api.Stamp) int {
	hit := func(soft bool) bool {
		for x := range targets(s) {
			x.soft = soft
			if s.At.Lo < t.purged[x] {
				return true
			}
		}
		return false
	}
	switch {
	case hit(false):
		return api.CoRemoved
	case hit(true):
		return api.CoStale
	}
	return api.CoFresh
}

// Revoked reports whether a digest was revoked.
func (t Table) Revoked(d api.Digest) bool { return t.revoked[d] }

// Last returns the number of the last epoch.
func (t Table) Last() int { return t.last }

// put puts an epoch into the maps of a table.
func (t *Table) put(e api.Epoch) {
	t.last = e.Num
	if t.purged == nil && len(e.Purges) > 0 {
		t.purged = map[target]int{}
	}
	if t.revoked == nil && len(e.Revoked) > 0 {
		t.revoked = map[api.Digest]bool{}
	}
	for _, p := range e.Purges {
		x := target{p.Kind, p.What, p.Soft}
		t.purged[x] = max(t.purged[x], e.At.Hi+1)
	}
	for _, d := range e.Revoked {
		t.revoked[d] = true
	}
}

// targets yields what the purges say that hit a copy.
func targets(s api.Stamp) iter.Seq[target] {
	return func(yield func(target) bool) {
		if !yield(target{kind: api.PuAddress, what: s.Addr}) {
			return
		}
		for prefix := range beginnings(s.Addr) {
			if !yield(target{kind: api.PuPrefix, what: prefix}) {
				return
			}
		}
		tags, _ := address.Split(s.Tags)
		for tag := range slices.Values(tags) {
			if !yield(target{kind: api.PuTag, what: customerOf(s.Addr) + ":" + tag}) {
				return
			}
		}
	}
}

// beginnings yields the beginnings of an address by whole parts, without its query.
func beginnings(addr string) iter.Seq[string] {
	return func(yield func(string) bool) {
		path, _, _ := strings.Cut(addr, "?")
		for i := range len(path) {
			if path[i] == '/' && !yield(path[:i]) {
				return
			}
		}
		yield(path)
	}
}
