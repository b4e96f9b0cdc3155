package cond

import (
	"iter"
	"slices"
	"strconv"

	"weirgate/address"
	"weirgate/api"
)

// everywhere is the pattern that matches all addresses.
const everywhere = "*/**"

// Empty returns whether a condition never holds.
func Empty(c api.Cond) (bool, api.Ask, api.Errno) {
	if !Valid(c) {
		return false, api.Ask{}, api.ErrArg
	}
	if isEmpty(c) {
		return true, api.Ask{}, api.OK
	}
	return false, sample(c), api.OK
}

// Implies returns whether a condition holds where another one does.
func Implies(a, b api.Cond) (bool, api.Ask, api.Errno) {
	if !Valid(a) || !Valid(b) {
		return false, api.Ask{}, api.ErrArg
	}
	if isEmpty(a) {
		return true, api.Ask{}, api.OK
	}
	ask, found := exception(a, b)
	return !found, ask, api.OK
}

// sample returns an ask for which a condition that is not empty holds.
func sample(c api.Cond) api.Ask {
	_, addr, _ := address.Meet(patternOf(c), patternOf(c))
	client, _ := find(c.Clients, names(), func(string) bool { return true })
	country, _ := find(c.Countries, countries(), func(string) bool { return true })
	site, _ := find(c.Sites, sites(), func(int) bool { return true })
	return api.Ask{Addr: addr, Client: client, Country: country, Site: site, At: api.Period{Lo: c.From, Hi: c.From}}
}

// exception returns an ask for which the first condition, which is not empty, holds, and the second one does not. What the fields of a condition allow is independent: so one of them is enough.
func exception(a, b api.Cond) (api.Ask, bool) {
	ask := sample(a)
	if a.From < b.From {
		return ask, true
	}
	if a.To > b.To {
		ask.At = api.Period{Lo: a.To - 1, Hi: a.To - 1}
		return ask, true
	}
	if covers, addr, _ := address.Covers(patternOf(b), patternOf(a)); !covers {
		ask.Addr = addr
		return ask, true
	}
	if client, ok := find(a.Clients, names(), func(x string) bool { return !allows(b.Clients, x) }); ok {
		ask.Client = client
		return ask, true
	}
	if country, ok := find(a.Countries, countries(), func(x string) bool { return !allows(b.Countries, x) }); ok {
		ask.Country = country
		return ask, true
	}
	if site, ok := find(a.Sites, sites(), func(x int) bool { return !allows(b.Sites, x) }); ok {
		ask.Site = site
		return ask, true
	}
	return api.Ask{}, false
}

func patternOf(c api.Cond) string {
	if c.Pattern == "" {
		return everywhere
	}
	return c.Pattern
}

// find returns the first element of a list (of all, if it is empty) of which something is true.
func find[T any](l []T, all iter.Seq[T], ok func(T) bool) (T, bool) {
	if len(l) > 0 {
		all = slices.Values(l)
	}
	for x := range all {
		if ok(x) {
			return x, true
		}
	}
	var none T
	return none, false
}

// names yields more names than a list can have.
func names() iter.Seq[string] {
	return func(yield func(string) bool) {
		for n := 0; n <= api.MaxClients && yield("c"+strconv.Itoa(n)); n++ {
		}
	}
}

// countries yields all countries.
func countries() iter.Seq[string] {
	return func(yield func(string) bool) {
		for n := 0; n < 26*26 && yield(string([]byte{'a' + byte(n/26), 'a' + byte(n%26)})); n++ {
		}
	}
}

// sites yields all sites.
func sites() iter.Seq[int] {
	return func(yield func(int) bool) {
		for n := 0; n < api.MaxSites && yield(n); n++ {
		}
	}
}
