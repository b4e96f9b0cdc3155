package origin

import (
	"weirgate/address"
	"weirgate/api"
	"weirgate/clock"
	"weirgate/seal"
)

// Stamp says what an origin has answered.
func Stamp(k api.Key, addr, variant string, a api.Answer, sent, got api.Period) (api.Stamp, api.Errno) {
	whole := !a.Same && a.Size == len(a.Bytes) && a.Body == Digest(a.Bytes)
	s := stampOf(addr, variant, a, sent, got)
	if e := first(must(api.ErrArg, seal.Valid(k), clock.Valid(sent), clock.Valid(got), whole), check(s)); e != api.OK {
		return api.Stamp{}, e
	}
	return seal.SealStamp(k, s), api.OK
}

// Renew says that the content of a stamp is still the same.
func Renew(k api.Key, s api.Stamp, a api.Answer, sent, got api.Period) (api.Stamp, api.Errno) {
	next := stampOf(s.Addr, s.Variant, a, sent, got)
	e := first(
		must(api.ErrArg, seal.Valid(k), clock.Valid(sent), clock.Valid(got), a.Same),
		must(api.ErrChanged, a.Body == s.Body, a.Size == s.Size),
		check(next))
	if e != api.OK {
		return api.Stamp{}, e
	}
	return seal.SealStamp(k, next), api.OK
}

func stampOf(addr, variant string, a api.Answer, sent, got api.Period) api.Stamp {
	return api.Stamp{
		Addr: addr, Variant: variant, Status: a.Status, Size: a.Size, Body: a.Body, Tags: a.Tags,
		At: api.Period{Lo: sent.Lo, Hi: got.Hi},
	}
}

// check returns the error that both kinds of stamps may have.
func check(s api.Stamp) api.Errno {
	text, e := address.Canonical(s.Addr)
	_, f := address.Split(s.Tags)
	return first(must(api.ErrForm, e == api.OK, text == s.Addr, f == api.OK), must(api.ErrTime, s.At.Lo <= s.At.Hi))
}

// must returns an error if one of some conditions is not true.
func must(e api.Errno, conditions ...bool) api.Errno {
	for _, ok := range conditions {
		if !ok {
			return e
		}
	}
	return api.OK
}

// first returns the first error that there is.
func first(errors ...api.Errno) api.Errno {
	for _, e := range errors {
		if e != api.OK {
			return e
		}
	}
	return api.OK
}
