package verify

import (
	"iter"
	"slices"
	"strings"

	"weirgate/address"
	"weirgate/api"
	"weirgate/clock"
	"weirgate/hash"
	"weirgate/seal"
)

// tagEpoch is the tag of the names of epochs.
const tagEpoch = 31

// lacks reports whether there are fewer epochs than the reply says that the site had heard.
func (r reader) lacks() bool { return len(r.x.Epochs) < r.reply.Heard }

// heard yields the heard epochs, with their places.
func (r reader) heard() iter.Seq2[int, api.Epoch] {
	return func(yield func(int, api.Epoch) bool) {
		for i, e := range r.x.Epochs {
			if i >= r.reply.Heard || !yield(i, e) {
				return
			}
		}
	}
}

// refused returns the place of the first heard epoch that does not continue the chain, and why; -1 if there is none.
func (r reader) refused() (int, api.Errno) {
	var last api.Epoch
	for i, e := range r.heard() {
		if why := continues(i, last, e); why != api.OK {
			return i, why
		}
		if why := seal.CheckEpoch(r.x.Ring, e); why != api.OK {
			return i, why
		}
		last = e
	}
	return -1, api.OK
}

// continues checks an epoch that has so many epochs before it.
func continues(before int, last, e api.Epoch) api.Errno {
	if !validEpoch(e) {
		return api.ErrForm
	}
	var prev api.Digest
	if before > 0 {
		prev = hash.Of(tagEpoch, append(seal.EpochParts(last), string(last.Seal[:]))...)
	}
	if e.Num != before+1 || e.Prev != prev {
		return api.ErrChain
	}
	if before > 0 && (e.At.Lo < last.At.Lo || e.At.Hi < last.At.Hi) {
		return api.ErrTime
	}
	return api.OK
}

func validEpoch(e api.Epoch) bool {
	if e.Num < 1 || e.Num > api.MaxEpochs || !clock.Valid(e.At) || len(e.Purges) > api.MaxPurges || len(e.Revoked) > api.MaxPurges {
		return false
	}
	for _, p := range e.Purges {
		if !validPurge(p) {
			return false
		}
	}
	return true
}

func validPurge(p api.Purge) bool {
	switch p.Kind {
	case api.PuAddress:
		return canonical(p.What)
	case api.PuPrefix:
		return canonical(p.What) && !strings.Contains(p.What, "?")
	case api.PuTag:
		customer, tag, _ := strings.Cut(p.What, ":")
		return isName(customer) && isName(tag)
	}
	return false
}

func canonical(s string) bool {
	text, e := address.Canonical(s)
	return e == api.OK && text == s
}

// isName asks layer 6: what can be a tag are names.
func isName(s string) bool {
	_, e := address.Tags([]string{s})
	return e == api.OK
}

// hits reports whether a purge is valid, and hits the copy with a stamp.
func hits(p api.Purge, s api.Stamp) bool {
	if !validPurge(p) {
		return false
	}
	switch p.Kind {
	case api.PuAddress:
		return p.What == s.Addr
	case api.PuPrefix:
		return address.Under(p.What, s.Addr)
	}
	customer, tag, _ := strings.Cut(p.What, ":")
	return strings.HasPrefix(s.Addr, customer) && endsCustomer(s.Addr[len(customer):]) && address.HasTag(s.Tags, tag)
}

// endsCustomer reports whether a customer ends before this rest of an address.
func endsCustomer(rest string) bool { return rest == "" || rest[0] == '/' || rest[0] == '?' }

// purged returns what the heard epochs make of the copy with the stamp.
func (r reader) purged() int {
	state := api.CoFresh
	for _, e := range r.heard() {
		if r.reply.Stamp.At.Lo > e.At.Hi {
			continue
		}
		for _, p := range e.Purges {
			if !hits(p, r.reply.Stamp) {
				continue
			}
			if !p.Soft {
				return api.CoRemoved
			}
			state = api.CoStale
		}
	}
	return state
}

// revoked reports whether a heard epoch revokes an identity.
func (r reader) revoked(id api.Digest) bool {
	for _, e := range r.heard() {
		if slices.Contains(e.Revoked, id) {
			return true
		}
	}
	return false
}
