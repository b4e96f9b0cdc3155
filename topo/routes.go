// Package topo is layer 42: see shared/doc/42-topo.md.
package topo

import (
	"iter"
	"slices"

	"weirgate/api"
	"weirgate/graph"
)

// places returns where the hub of each site is; false if the sites are not strictly ascending numbers of sites.
func places(hubs []api.Hub) (map[int]int, bool) {
	at := map[int]int{}
	for i, h := range hubs {
		if !isSite(h.Site) || i > 0 && h.Site <= hubs[i-1].Site {
			return nil, false
		}
		at[h.Site] = i
	}
	return at, true
}

func isSite(n int) bool { return n >= 0 && n < api.MaxSites }

// parents returns the places of the parents of all hubs; false if a parent is no site of a hub.
func parents(m api.Map, at map[int]int) ([]int, bool) {
	l := make([]int, len(m.Hubs))
	for i, h := range m.Hubs {
		place, known := at[h.Parent]
		if h.Parent == -1 {
			place = -1
		} else if !known {
			return nil, false
		}
		l[i] = place
	}
	return l, true
}

// ValidMap reports whether a map is valid.
func ValidMap(m api.Map) bool {
	at, ok := places(m.Hubs)
	if !ok {
		return false
	}
	tree, ok := parents(m, at)
	if !ok {
		return false
	}
	if _, e := graph.Depths(tree); e != api.OK {
		return false
	}
	return validRoutes(m, at)
}

func validRoutes(m api.Map, at map[int]int) bool {
	if len(m.Routes) > api.MaxRoutes {
		return false
	}
	for i, r := range m.Routes {
		if !isCountry(r.Country) || i > 0 && r.Country <= m.Routes[i-1].Country {
			return false
		}
		met := map[int]bool{}
		for _, site := range r.Sites {
			if _, known := at[site]; !known || met[site] {
				return false
			}
			met[site] = true
		}
	}
	return true
}

func isCountry(s string) bool {
	return s == "" || len(s) == 2 && isLetter(s[0]) && isLetter(s[1])
}

func isLetter(c byte) bool { return c >= 'a' && c <= 'z' }

// upSites yields those of some sites that are up.
func upSites(m api.Map, at map[int]int, sites []int) iter.Seq[int] {
	return func(yield func(int) bool) {
		for _, site := range sites {
			if m.Hubs[at[site]].Up && !yield(site) {
				return
			}
		}
	}
}

// Entry returns the site to which the clients of a country go.
func Entry(m api.Map, country string) (int, api.Errno) {
	if !ValidMap(m) {
		return 0, api.ErrArg
	}
	return entry(m, country)
}

func entry(m api.Map, country string) (int, api.Errno) {
	route, known := routeOf(m, country)
	if !known {
		route, _ = routeOf(m, "")
	}
	at, _ := places(m.Hubs)
	for site := range upSites(m, at, route.Sites) {
		return site, api.OK
	}
	return 0, api.ErrName
}

func routeOf(m api.Map, country string) (api.Route, bool) {
	for _, r := range m.Routes {
		if r.Country == country {
			return r, true
		}
	}
	return api.Route{}, false
}

// Climb returns the sites by which a miss climbs.
func Climb(m api.Map, site int) ([]int, api.Errno) {
	if !ValidMap(m) {
		return nil, api.ErrArg
	}
	at, _ := places(m.Hubs)
	from, known := at[site]
	if !known {
		return nil, api.ErrName
	}
	tree, _ := parents(m, at)
	way, _ := graph.Climb(tree, from)
	for i, place := range way {
		way[i] = m.Hubs[place].Site
	}
	var sites []int
	for up := range upSites(m, at, way) {
		sites = append(sites, up)
	}
	return sites, api.OK
}

// Turn turns a site on or off.
func Turn(m api.Map, site int, up bool) (api.Map, api.Errno) {
	if !ValidMap(m) {
		return api.Map{}, api.ErrArg
	}
	at, _ := places(m.Hubs)
	place, known := at[site]
	if !known {
		return api.Map{}, api.ErrName
	}
	turned := api.Map{Hubs: slices.Clone(m.Hubs), Routes: slices.Clone(m.Routes)}
	for i, r := range turned.Routes {
		turned.Routes[i].Sites = slices.Clone(r.Sites)
	}
	turned.Hubs[place].Up = up
	return turned, api.OK
}

// Moved returns the countries whose clients go elsewhere.
func Moved(a, b api.Map, countries []string) []string {
	validA, validB := ValidMap(a), ValidMap(b)
	in := func(m api.Map, valid bool, country string) int {
		if !valid {
			return -1
		}
		site, e := entry(m, country)
		if e != api.OK {
			return -1
		}
		return site
	}
	var moved []string
	for _, country := range countries {
		if in(a, validA, country) != in(b, validB, country) {
			moved = append(moved, country)
		}
	}
	return moved
}
