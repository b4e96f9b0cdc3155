package lease

import (
	"weirgate/api"
	"weirgate/clock"
	"weirgate/seal"
)

// maxReading is the greatest reading of a clock.
const maxReading = 1 << 41

// Hear returns what a site knows after it has applied epochs.
func Hear(h api.Held, epoch int) (api.Held, api.Errno) {
	if !isHeld(h) || !within(epoch, 0, api.MaxEpochs) {
		return h, api.ErrArg
	}
	h.Heard = max(h.Heard, epoch)
	return h, api.OK
}

// Take returns what a site knows with a lease.
func Take(ring []api.Key, h api.Held, l api.Lease) (api.Held, api.Errno) {
	if !isHeld(h) || l.Site != h.Site {
		return h, api.ErrArg
	}
	if e := seal.CheckLease(ring, l); e != api.OK {
		return h, e
	}
	if l.Epoch > h.Heard {
		return h, api.ErrState
	}
	if l.Until > h.Lease.Until {
		h.Lease = l
	}
	return h, api.OK
}

// MayServe reports whether a site may serve.
func MayServe(h api.Held, now api.Period) bool {
	return isHeld(h) && clock.Valid(now) && clock.Before(now, h.Lease.Until)
}

// Worth returns how many readings of a clock a lease still holds for.
func Worth(h api.Held, c api.Clock, local int) (int, api.Errno) {
	if !isHeld(h) || clock.Check(c) != api.OK || !within(local, c.Local, maxReading) {
		return 0, api.ErrArg
	}
	return clock.Worth(c, local, h.Lease.Until), api.OK
}

func isHeld(h api.Held) bool {
	return isSite(h.Site) && within(h.Heard, 0, api.MaxEpochs) && within(h.Lease.Until, 0, api.MaxTime)
}
