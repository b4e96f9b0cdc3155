// Package seal keeps keys, and makes and checks seals (layer 4, shared/doc/04-seal.md).
package seal

import (
	"slices"
	"sort"

	"weirgate/api"
	"weirgate/hash"
)

// maxSecret is the greatest number of bytes of a secret.
const maxSecret = 64

// Valid reports whether a key is valid.
func Valid(k api.Key) bool {
	return k.Party >= 1 && k.Party <= api.MaxParty && k.Serial >= 1 && k.Serial <= api.MaxParty &&
		len(k.Secret) >= 1 && len(k.Secret) <= maxSecret &&
		k.From >= 0 && k.From < k.To && k.To <= api.MaxTime
}

// Add adds a key to a ring.
func Add(ring []api.Key, k api.Key) ([]api.Key, api.Errno) {
	if !Valid(k) {
		return nil, api.ErrArg
	}
	i := place(ring, k.Party, k.Serial)
	if i < len(ring) && ring[i].Party == k.Party && ring[i].Serial == k.Serial {
		return nil, api.ErrTwice
	}
	if len(ring) >= api.MaxRing {
		return nil, api.ErrLimit
	}
	return slices.Insert(slices.Clone(ring), i, k), api.OK
}

// Find returns a key.
func Find(ring []api.Key, party, serial int) (api.Key, api.Errno) {
	i := place(ring, party, serial)
	if i == len(ring) || ring[i].Party != party || ring[i].Serial != serial {
		return api.Key{}, api.ErrName
	}
	return ring[i], api.OK
}

// Current returns the newest key of a party that counts in a period.
func Current(ring []api.Key, party int, at api.Period) (api.Key, api.Errno) {
	from, to := keysOf(ring, party)
	if from == to {
		return api.Key{}, api.ErrName
	}
	for i := to - 1; i >= from; i-- {
		if counts(ring[i], at) {
			return ring[i], api.OK
		}
	}
	return api.Key{}, api.ErrTime
}

// Rotate gives a party a new key.
func Rotate(ring []api.Key, party int, secret string, at, overlap int) ([]api.Key, api.Errno) {
	from, to := keysOf(ring, party)
	if from == to {
		return nil, api.ErrName
	}
	old := ring[to-1]
	k := api.Key{Party: party, Serial: old.Serial + 1, Secret: secret, From: at, To: api.MaxTime}
	if at < 0 || at > api.MaxTime || overlap < 0 || overlap > api.MaxTime || !Valid(k) {
		return nil, api.ErrArg
	}
	if at+overlap <= old.From || at > old.To {
		return nil, api.ErrTime
	}
	if len(ring) >= api.MaxRing {
		return nil, api.ErrLimit
	}
	l := slices.Insert(slices.Clone(ring), to, k)
	l[to-1].To = min(old.To, at+overlap)
	return l, api.OK
}

// Make returns the seal of parts with a key.
func Make(k api.Key, tag int, parts ...string) api.Seal {
	return api.Seal(hash.Of(tag, slices.Concat([]string{k.Secret}, parts, []string{k.Secret})...))
}

// Check checks a seal.
func Check(ring []api.Key, party, serial, tag int, parts []string, s api.Seal, at api.Period) api.Errno {
	k, e := Find(ring, party, serial)
	switch {
	case e != api.OK:
		return e
	case !counts(k, at):
		return api.ErrTime
	case Make(k, tag, parts...) != s:
		return api.ErrSeal
	}
	return api.OK
}

// place returns the place of the first key that is not before a party and a serial number.
func place(ring []api.Key, party, serial int) int {
	return sort.Search(len(ring), func(i int) bool {
		k := ring[i]
		return k.Party > party || k.Party == party && k.Serial >= serial
	})
}

// keysOf returns where the keys of a party begin and end.
func keysOf(ring []api.Key, party int) (from, to int) {
	from = place(ring, party, 1)
	to = from
	for to < len(ring) && ring[to].Party == party {
		to++
	}
	return from, to
}

// counts reports whether a key counts in a period.
func counts(k api.Key, at api.Period) bool {
	right := at.Lo >= 0 && at.Lo <= at.Hi && at.Hi <= api.MaxTime
	return right && k.From <= at.Lo && at.Hi < k.To
}
