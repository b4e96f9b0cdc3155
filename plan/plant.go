// Package plan plans how requests climb to origins (layer 40, shared/doc/40-plan.md).
package plan

import (
	"weirgate/api"
	"weirgate/cost"
)

const (
	source = 0
	target = 1
)

// enters returns the node where the requests of a place come in.
func enters(place int) int { return 2 + 2*place }

// leaves returns the node where the requests of a place leave.
func leaves(place int) int { return 3 + 2*place }

// Check checks a plant.
func Check(p api.Plant) api.Errno {
	if len(p.Places) > api.MaxPlaces || len(p.Roads) > api.MaxRoads {
		return api.ErrLimit
	}
	before := map[[2]int]bool{}
	for _, s := range p.Places {
		if !validSpot(s) {
			return api.ErrPlace
		}
		if before[[2]int{s.Kind, s.Num}] {
			return api.ErrTwice
		}
		before[[2]int{s.Kind, s.Num}] = true
	}
	for _, r := range p.Roads {
		if !validRoad(p, r) {
			return api.ErrPlace
		}
	}
	return api.OK
}

func validSpot(s api.Spot) bool {
	if s.Cap < 0 || s.Cap > api.MaxCap {
		return false
	}
	switch s.Kind {
	case api.PlSite:
		return s.Num >= 0 && s.Num < api.MaxSites
	case api.PlShield, api.PlOrigin:
		return s.Num >= 1 && s.Num <= api.MaxParty
	}
	return false
}

func validRoad(p api.Plant, r api.Road) bool {
	if !isPlace(p, r.From) || !isPlace(p, r.To) || r.From == r.To {
		return false
	}
	if p.Places[r.From].Kind == api.PlOrigin || p.Places[r.To].Kind == api.PlSite {
		return false
	}
	return r.Cap >= 0 && r.Cap <= api.MaxCap && r.Cost >= 0 && r.Cost <= api.MaxCost
}

func isPlace(p api.Plant, place int) bool { return place >= 0 && place < len(p.Places) }

func isSite(p api.Plant, place int) bool {
	return isPlace(p, place) && p.Places[place].Kind == api.PlSite
}

// Net returns the network of a plant.
func Net(p api.Plant) api.Net {
	n := api.Net{Nodes: 2 + 2*len(p.Places)}
	add := func(from, to, most, price int) {
		n.Arcs = append(n.Arcs, api.Arc{From: from, To: to, Cap: most, Cost: price})
	}
	for i, s := range p.Places {
		add(enters(i), leaves(i), s.Cap, 0)
	}
	for i, s := range p.Places {
		if s.Kind == api.PlSite {
			add(source, enters(i), s.Cap, 0)
		}
	}
	for i, s := range p.Places {
		if s.Kind == api.PlOrigin {
			add(leaves(i), target, s.Cap, 0)
		}
	}
	for _, r := range p.Roads {
		add(leaves(r.From), enters(r.To), r.Cap, r.Cost)
	}
	return n
}

// roadsBegin returns the place of the arc of the first road among those of the network.
func roadsBegin(p api.Plant) int {
	arcs := len(p.Places)
	for _, s := range p.Places {
		if s.Kind != api.PlShield {
			arcs++
		}
	}
	return arcs
}

// Demand returns how many requests all sites have.
func Demand(p api.Plant) int {
	sum := 0
	for _, s := range p.Places {
		if s.Kind == api.PlSite {
			sum += s.Cap
		}
	}
	return sum
}

// Make makes a plan.
func Make(p api.Plant) (api.Freight, api.Errno) {
	if e := Check(p); e != api.OK {
		return api.Freight{}, e
	}
	return cost.Send(Net(p), source, target, Demand(p))
}

// Accept checks a plan.
func Accept(p api.Plant, f api.Freight) api.Errno {
	if e := Check(p); e != api.OK {
		return e
	}
	return cost.Accept(Net(p), source, target, Demand(p), f)
}
