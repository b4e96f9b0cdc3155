package plan

import (
	"iter"

	"weirgate/api"
	"weirgate/flow"
)

// Served returns how much a place serves.
func Served(p api.Plant, f api.Freight, place int) int {
	if !isPlace(p, place) {
		return 0
	}
	return f.Flow[place]
}

// Short returns the sites that are not served as they want.
func Short(p api.Plant, f api.Freight) []int {
	var short []int
	for i, s := range p.Places {
		if s.Kind == api.PlSite && f.Flow[i] < s.Cap {
			short = append(short, i)
		}
	}
	return short
}

// pair is a gateway and an origin.
type pair struct{ gate, origin int }

// Allots returns what gateways may send to origins.
func Allots(p api.Plant, f api.Freight) []api.Allot {
	var allots []api.Allot
	at := map[pair]int{}
	begin := roadsBegin(p)
	for i, r := range p.Roads {
		from, to := p.Places[r.From], p.Places[r.To]
		if from.Kind != api.PlShield || to.Kind != api.PlOrigin {
			continue
		}
		who := pair{from.Num, to.Num}
		if _, known := at[who]; !known {
			at[who] = len(allots)
			allots = append(allots, api.Allot{Gate: who.gate, Origin: who.origin})
		}
		allots[at[who]].N += f.Flow[begin+i]
	}
	return allots
}

// Between returns what may be sent while one plan takes the place of another one.
func Between(a, b []api.Allot) []api.Allot {
	after := map[pair]int{}
	for _, x := range b {
		after[pair{x.Gate, x.Origin}] = x.N
	}
	var both []api.Allot
	for _, x := range a {
		if n, known := after[pair{x.Gate, x.Origin}]; known {
			both = append(both, api.Allot{Gate: x.Gate, Origin: x.Origin, N: min(x.N, n)})
		}
	}
	return both
}

// Route returns the way of a request.
func Route(p api.Plant, f api.Freight, place, n int) ([]int, api.Errno) {
	if !isSite(p, place) {
		return nil, api.ErrName
	}
	if n < 0 || n >= Served(p, f, place) {
		return nil, api.ErrArg
	}
	for way, times := range waysOf(p, f, place) {
		if n < times {
			return way, api.OK
		}
		n -= times
	}
	return nil, api.ErrArg
}

// waysOf yields the ways of the requests of a site, as places, and how often each one is used.
func waysOf(p api.Plant, f api.Freight, site int) iter.Seq2[[]int, int] {
	net := Net(p)
	places := func(way []int) []int {
		var l []int
		for _, arc := range way {
			// Only the own arcs of places have numbers of places.
			if arc < len(p.Places) {
				l = append(l, arc)
			}
		}
		return l
	}
	return func(yield func([]int, int) bool) {
		ways, times, _ := flow.Paths(net, source, target, f.Flow)
		for i, way := range ways {
			if net.Arcs[way[0]].To == enters(site) && !yield(places(way), times[i]) {
				return
			}
		}
	}
}
