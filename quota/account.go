package quota

import (
	"cmp"
	"iter"
	"slices"

	"weirgate/api"
)

// Accounts reports whether accounts are valid.
func Accounts(l []api.Account) bool {
	before := 0
	for _, a := range l {
		if a.Tenant <= before || !isWeight(a.Weight) || !isVolume(a.Used) {
			return false
		}
		before = a.Tenant
	}
	return len(l) <= api.MaxTenants
}

// Open opens an account.
func Open(l []api.Account, tenant, weight int) ([]api.Account, api.Errno) {
	if tenant < 1 || !isWeight(weight) {
		return nil, api.ErrArg
	}
	i, found := find(l, tenant)
	if found {
		return nil, api.ErrTwice
	}
	if len(l) >= api.MaxTenants {
		return nil, api.ErrLimit
	}
	return slices.Insert(slices.Clone(l), i, api.Account{Tenant: tenant, Weight: weight}), api.OK
}

// Use changes what a tenant uses.
func Use(l []api.Account, tenant, more int) ([]api.Account, api.Errno) {
	i, found := find(l, tenant)
	if !found {
		return nil, api.ErrName
	}
	if more < -api.MaxBytes || more > api.MaxBytes || !isVolume(l[i].Used+more) {
		return nil, api.ErrArg
	}
	l = slices.Clone(l)
	l[i].Used += more
	return l, api.OK
}

// Total returns what all use.
func Total(l []api.Account) int {
	sum := 0
	for _, a := range l {
		sum += a.Used
	}
	return sum
}

// Victim tells who has to give something up.
func Victim(capacity int, l []api.Account, tenant, more int) (int, api.Errno) {
	own, found := find(l, tenant)
	if !found {
		return 0, api.ErrName
	}
	if !isVolume(more) {
		return 0, api.ErrArg
	}
	if Total(l)+more <= capacity {
		return 0, api.OK
	}
	shares := make([]api.Share, len(l))
	for i, a := range l {
		shares[i] = api.Share{Weight: a.Weight, Want: a.Used}
	}
	wanted := l[own].Used + more
	shares[own].Want = min(wanted, api.MaxBytes)
	given := Fair(capacity, shares)
	if given[own] < wanted {
		return 0, api.ErrQuota
	}
	victim, most := 0, 0
	for i, a := range others(l, own) {
		if beyond := a.Used - given[i]; beyond > most {
			victim, most = a.Tenant, beyond
		}
	}
	return victim, api.OK
}

// find returns the place of the account of a tenant, and whether there is one.
func find(l []api.Account, tenant int) (int, bool) {
	return slices.BinarySearchFunc(l, tenant, func(a api.Account, tenant int) int { return cmp.Compare(a.Tenant, tenant) })
}

// others yields all accounts but one, with their places.
func others(l []api.Account, own int) iter.Seq2[int, api.Account] {
	return func(yield func(int, api.Account) bool) {
		for i, a := range l {
			if i != own && !yield(i, a) {
				return
			}
		}
	}
}
