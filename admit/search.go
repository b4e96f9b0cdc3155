package admit

import (
	"cmp"
	"slices"

	"weirgate/api"
	"weirgate/quota"
	"weirgate/sketch"
)

// search is a search for victims: the shelf without those that are found.
type search struct {
	api.Shelf
	counts map[string]int // of names that were compared
	found  []api.Stored
}

// find returns the victims for an object without an error.
func find(s api.Shelf, h api.Stored) ([]string, api.Errno) {
	p := search{Shelf: copied(s), counts: map[string]int{}}
	e := api.OK
victims:
	for quota.Total(p.Accounts)+h.Size > p.Capacity {
		tenant, why := quota.Victim(p.Capacity, p.Accounts, h.Tenant, h.Size)
		switch why {
		case api.OK:
		case api.ErrQuota:
			tenant = h.Tenant
		default:
			e = why
			break victims
		}
		if !p.take(tenant) {
			e = api.ErrQuota
			break victims
		}
	}
	if e != api.OK {
		return nil, e
	}
	var names []string
	for _, f := range p.found {
		if f.Tenant == h.Tenant && p.count(f.Name) >= p.count(h.Name) {
			return nil, api.ErrWorth
		}
		names = append(names, f.Name)
	}
	return names, api.OK
}

// take takes the object of a tenant that is worth least, if it has one.
func (p *search) take(tenant int) bool {
	var own []api.Stored
	for _, h := range p.Held {
		if h.Tenant == tenant {
			own = append(own, h)
		}
	}
	if len(own) == 0 {
		return false
	}
	least := slices.MinFunc(own, p.compare)
	p.found = append(p.found, least)
	p.Shelf = without(p.Shelf, least.Name)
	return true
}

// compare compares what two objects are worth.
func (p *search) compare(a, b api.Stored) int {
	return cmp.Or(cmp.Compare(p.count(a.Name), p.count(b.Name)), cmp.Compare(a.Last, b.Last), cmp.Compare(a.Name, b.Name))
}

// count returns the count of a name.
func (p *search) count(name string) int {
	n, ok := p.counts[name]
	if !ok {
		n = sketch.Count(p.Sketch, name)
		p.counts[name] = n
	}
	return n
}
