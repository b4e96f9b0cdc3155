package graph

import (
	"slices"

	"weirgate/api"
)

// maxDist is the greatest absolute value of a distance that is checked.
const maxDist = 1 << 40

// none is the arc to a node to which no arc is chosen.
const none = -1

// round is what walks with at most so many arcs can do: to which nodes they lead, at which least cost; and the last arc of the walk to a node, if it is cheaper than all walks with fewer arcs.
type round struct {
	found []bool
	dist  []int
	last  []int
}

// Paths returns shortest paths.
func Paths(n api.Net, from int) (api.Routes, api.Errno) {
	if !Valid(n) || !isNode(n, from) {
		return api.Routes{}, api.ErrArg
	}
	first := round{make([]bool, n.Nodes), make([]int, n.Nodes), nil}
	first.found[from] = true
	rounds := []round{first}
	length := make([]int, n.Nodes)
search:
	for {
		next := rounds[len(rounds)-1].next(n)
		better := slices.IndexFunc(next.last, func(i int) bool { return i != none })
		switch {
		case better < 0:
			break search
		case len(rounds) == n.Nodes:
			return api.Routes{Cycle: cycleOf(n, append(rounds, next), better)}, api.OK
		}
		for node, i := range next.last {
			if i != none {
				length[node] = len(rounds)
			}
		}
		rounds = append(rounds, next)
	}
	end := rounds[len(rounds)-1]
	return api.Routes{Dist: slices.Clone(end.dist), Via: lastArcs(n, from, end, length)}, api.OK
}

// next returns what walks with one arc more can do.
func (r round) next(n api.Net) round {
	x := round{slices.Clone(r.found), slices.Clone(r.dist), slices.Repeat([]int{none}, n.Nodes)}
	for i, a := range n.Arcs {
		if !r.found[a.From] {
			continue
		}
		if d := r.dist[a.From] + a.Cost; !x.found[a.To] || d < x.dist[a.To] {
			x.found[a.To], x.dist[a.To], x.last[a.To] = true, d, i
		}
	}
	return x
}

// cycleOf returns a cycle of the cheapest walk to a node, which became cheaper in the last round. The walk has an arc of each round, so it meets a node twice; without what lies between it would be dearer.
func cycleOf(n api.Net, rounds []round, node int) []int {
	walk := make([]int, len(rounds)-1)
	for k := len(walk); k > 0; k-- {
		walk[k-1] = rounds[k].last[node]
		node = n.Arcs[walk[k-1]].From
	}
	met := slices.Repeat([]int{none}, n.Nodes)
	for i, arc := range walk {
		from := n.Arcs[arc].From
		if met[from] != none {
			return walk[met[from]:i]
		}
		met[from] = i
	}
	return walk[met[n.Arcs[walk[len(walk)-1]].To]:]
}

// lastArcs returns the last arc of a path to each node: of those with the fewest arcs the first one.
func lastArcs(n api.Net, from int, end round, length []int) []int {
	via := slices.Repeat([]int{none}, n.Nodes)
	for i, a := range n.Arcs {
		fits := end.found[a.From] && length[a.From] == length[a.To]-1 && end.dist[a.From]+a.Cost == end.dist[a.To]
		if fits && a.To != from && via[a.To] == none {
			via[a.To] = i
		}
	}
	return via
}

// CheckPaths checks shortest paths.
func CheckPaths(n api.Net, from int, r api.Routes) bool {
	if !Valid(n) || !isNode(n, from) {
		return false
	}
	found := forward(n).reach(from)
	if len(r.Cycle) > 0 {
		return len(r.Dist) == 0 && len(r.Via) == 0 && isBadCycle(n, r.Cycle, found)
	}
	if len(r.Dist) != n.Nodes || len(r.Via) != n.Nodes || r.Via[from] != none || r.Dist[from] != 0 {
		return false
	}
	for node, d := range r.Dist {
		if d < -maxDist || d > maxDist || node != from && !isTight(n, r, node, found[node]) {
			return false
		}
	}
	for _, a := range n.Arcs {
		if found[a.From] && r.Dist[a.To] > r.Dist[a.From]+a.Cost {
			return false
		}
	}
	return allLeadBack(n, from, r.Via)
}

// isBadCycle reports whether arcs are a cycle with a negative sum of costs, which begins at a node that was found.
func isBadCycle(n api.Net, cycle []int, found []bool) bool {
	sum, met := 0, make([]bool, n.Nodes)
	for i, arc := range cycle {
		if arc < 0 || arc >= len(n.Arcs) {
			return false
		}
		a, next := n.Arcs[arc], cycle[(i+1)%len(cycle)]
		if next < 0 || next >= len(n.Arcs) || n.Arcs[next].From != a.To || met[a.From] {
			return false
		}
		met[a.From] = true
		sum += a.Cost
	}
	return sum < 0 && found[n.Arcs[cycle[0]].From]
}

// isTight reports whether Via and Dist of a node fit together.
func isTight(n api.Net, r api.Routes, node int, found bool) bool {
	arc := r.Via[node]
	if arc == none {
		return !found && r.Dist[node] == 0
	}
	if !found || arc < 0 || arc >= len(n.Arcs) {
		return false
	}
	a := n.Arcs[arc]
	return a.To == node && r.Dist[a.From] == r.Dist[node]-a.Cost
}

// allLeadBack reports whether one comes from every node that has an arc to the beginning, which has none.
func allLeadBack(n api.Net, from int, via []int) bool {
	for start, arc := range via {
		node := start
		for steps := 0; via[node] != none; steps++ {
			if steps == n.Nodes {
				return false
			}
			node = n.Arcs[via[node]].From
		}
		if arc != none && node != from {
			return false
		}
	}
	return true
}
