package refuse

import (
	"slices"

	"weirgate/api"
	"weirgate/clock"
	"weirgate/plan"
	"weirgate/seal"
	"weirgate/wire"
)

func isSite(p api.Plant, place int) bool {
	return place >= 0 && place < len(p.Places) && p.Places[place].Kind == api.PlSite
}

func validWindow(window int) bool { return window >= 0 && window <= api.MaxWindows }

func isRequest(p api.Plant, place, n int) bool { return n >= 0 && n < p.Places[place].Cap }

// parts returns the parts of a refusal that are sealed.
func parts(r api.Refusal) []string {
	return []string{
		string(wire.Ints([]int{r.Place, r.N, r.Window, r.Sent, r.At.Lo, r.At.Hi, r.Serial})),
		string(wire.Ints(r.Cut)),
	}
}

// Make returns the refusal of a request.
func Make(k api.Key, p api.Plant, f api.Freight, place, n, window int, at api.Period) (api.Refusal, api.Errno) {
	if !isSite(p, place) || !seal.Valid(k) || k.Party != api.SiteParty+p.Places[place].Num || !clock.Valid(at) || !validWindow(window) {
		return api.Refusal{}, api.ErrArg
	}
	if !isRequest(p, place, n) {
		return api.Refusal{}, api.ErrArg
	}
	if plan.Accept(p, f) != api.OK {
		return api.Refusal{}, api.ErrProof
	}
	if n < plan.Served(p, f, place) {
		return api.Refusal{}, api.ErrState
	}
	r := api.Refusal{Place: place, N: n, Window: window, Sent: f.Sent, Cut: append([]int(nil), f.Cut...), At: at, Serial: k.Serial}
	r.Seal = seal.Make(k, api.TagRefusal, parts(r)...)
	return r, api.OK
}

// Check checks why a request was refused.
func Check(p api.Plant, r api.Refusal) api.Errno {
	if !isSite(p, r.Place) {
		return api.ErrName
	}
	if !isRequest(p, r.Place, r.N) || !validWindow(r.Window) {
		return api.ErrArg
	}
	bound, e := Bound(p, r.Cut)
	if e != api.OK || bound != r.Sent || r.Sent >= plan.Demand(p) || !slices.Contains(r.Cut, enters(r.Place)) {
		return api.ErrProof
	}
	return api.OK
}

// CheckSeal checks whose refusal it is.
func CheckSeal(ring []api.Key, p api.Plant, r api.Refusal) api.Errno {
	if !isSite(p, r.Place) {
		return api.ErrName
	}
	return seal.Check(ring, api.SiteParty+p.Places[r.Place].Num, r.Serial, api.TagRefusal, parts(r), r.Seal, r.At)
}

// All checks all refusals of a window.
func All(p api.Plant, l []api.Refusal) (int, api.Errno) {
	type request struct{ place, n int }
	before := map[request]bool{}
	demand := plan.Demand(p)
	wrong := func(i int, r api.Refusal) api.Errno {
		if e := Check(p, r); e != api.OK {
			return e
		}
		switch {
		case r.Window != l[0].Window:
			return api.ErrArg
		case before[request{r.Place, r.N}]:
			return api.ErrTwice
		case i >= demand-r.Sent:
			return api.ErrState
		}
		return api.OK
	}
	for i, r := range l {
		if e := wrong(i, r); e != api.OK {
			return i, e
		}
		before[request{r.Place, r.N}] = true
	}
	return -1, api.OK
}
