// Package refuse (layer 41) makes and checks refusals. See shared/doc/41-refuse.md.
package refuse

import (
	"iter"

	"weirgate/api"
	"weirgate/plan"
)

const (
	source = 0
	target = 1
)

// enters returns the node where the requests of a place come in.
func enters(place int) int { return 2 + 2*place }

// placeOf returns the place that has a node.
func placeOf(node int) int { return (node - 2) / 2 }

// sides says of each node of a network whether it is in a cut; false if the list is no cut.
func sides(n api.Net, cut []int) ([]bool, bool) {
	in := make([]bool, n.Nodes)
	for i, node := range cut {
		if node < 0 || node >= n.Nodes || i > 0 && node <= cut[i-1] {
			return nil, false
		}
		in[node] = true
	}
	return in, in[source] && !in[target]
}

// out yields the arcs that lead out of a cut, with their places.
func out(n api.Net, in []bool) iter.Seq2[int, api.Arc] {
	return func(yield func(int, api.Arc) bool) {
		for i, a := range n.Arcs {
			if in[a.From] && !in[a.To] && !yield(i, a) {
				return
			}
		}
	}
}

// Bound returns the bound of a cut.
func Bound(p api.Plant, cut []int) (int, api.Errno) {
	n := plan.Net(p)
	in, ok := sides(n, cut)
	if !ok {
		return 0, api.ErrProof
	}
	sum := 0
	for _, a := range out(n, in) {
		sum += a.Cap
	}
	return sum, api.OK
}

// Full returns the places and roads that are too small.
func Full(p api.Plant, cut []int) ([]int, []int) {
	n := plan.Net(p)
	in, ok := sides(n, cut)
	if !ok {
		return nil, nil
	}
	narrow := make([]bool, len(p.Places))
	var places, roads []int
	begin := len(n.Arcs) - len(p.Roads) // the arcs of roads are the last ones
	for i, a := range out(n, in) {
		switch {
		case i >= begin:
			roads = append(roads, i-begin)
		case a.From == source:
			narrow[placeOf(a.To)] = true
		default:
			narrow[placeOf(a.From)] = true
		}
	}
	for i, is := range narrow {
		if is {
			places = append(places, i)
		}
	}
	return places, roads
}
