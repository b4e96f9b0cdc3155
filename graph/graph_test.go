package graph_test

import (
	"math"
	"math/rand"
	"reflect"
	"slices"
	"testing"

	"weirgate/api"
	"weirgate/graph"
)

func arc(from, to, cost int) api.Arc { return api.Arc{From: from, To: to, Cost: cost} }

func net(nodes int, arcs ...api.Arc) api.Net { return api.Net{Nodes: nodes, Arcs: arcs} }

// example is the network of the chapter's examples, with some arcs more.
func example(more ...api.Arc) api.Net {
	return net(4, append([]api.Arc{arc(0, 1, 2), arc(1, 2, -1), arc(0, 2, 1), arc(3, 0, 0)}, more...)...)
}

func randomNet(r *rand.Rand, low int) api.Net {
	n := net(1 + r.Intn(6))
	for range r.Intn(12) {
		n.Arcs = append(n.Arcs, arc(r.Intn(n.Nodes), r.Intn(n.Nodes), low+r.Intn(6)))
	}
	return n
}

// bad are networks that are not valid.
func bad() []api.Net {
	return []api.Net{
		net(-1), net(api.MaxNodes + 1), net(2, arc(0, 2, 0)), net(2, arc(2, 0, 0)), net(2, arc(-1, 0, 0)), net(2, arc(0, math.MinInt, 0)), net(0, arc(0, 0, 0)),
		net(2, arc(0, 1, api.MaxCost+1)), net(2, arc(0, 1, -api.MaxCost-1)), net(2, arc(0, 1, math.MinInt)), net(2, make([]api.Arc, api.MaxArcs+1)...),
	}
}

// closure tells which nodes reach which.
func closure(n api.Net) [][]bool {
	c := make([][]bool, n.Nodes)
	for i := range c {
		c[i] = make([]bool, n.Nodes)
		c[i][i] = true
	}
	for range n.Nodes {
		for _, a := range n.Arcs {
			for i := range c {
				c[i][a.To] = c[i][a.To] || c[i][a.From]
			}
		}
	}
	return c
}

func isCycle(n api.Net, l []int) bool {
	from := map[int]bool{}
	for i, x := range l {
		if x < 0 || x >= len(n.Arcs) || from[n.Arcs[x].From] || n.Arcs[l[(i+1)%len(l)]].From != n.Arcs[x].To {
			return false
		}
		from[n.Arcs[x].From] = true
	}
	return len(l) > 0
}

func TestValid(t *testing.T) {
	for i, n := range []api.Net{{}, net(1), net(1, arc(0, 0, 5)), example(), net(api.MaxNodes, arc(255, 0, api.MaxCost), arc(0, 255, -api.MaxCost)), net(1, make([]api.Arc, api.MaxArcs)...), net(2, api.Arc{To: 1, Cap: -5})} {
		if !graph.Valid(n) {
			t.Error("P9.1: a valid network:", i)
		}
	}
	for i, n := range bad() {
		if graph.Valid(n) {
			t.Error("P9.1: a network that is not valid:", i)
		}
		l, e := graph.Reach(n, 0)
		o, c, f := graph.Order(n)
		p, g := graph.Parts(n)
		r, h := graph.Paths(n, 0)
		if l != nil || o != nil || c != nil || p != nil || !reflect.DeepEqual(r, api.Routes{}) || e != 1 || f != 1 || g != 1 || h != 1 {
			t.Error("P9.1 to P9.4: a network that is not valid:", i, e, f, g, h)
		}
		if graph.CheckPaths(n, 0, api.Routes{Dist: []int{0, 0}, Via: []int{-1, -1}}) || graph.CheckPaths(n, 0, api.Routes{}) {
			t.Error("P9.5: a network that is not valid:", i)
		}
	}
}

func TestReach(t *testing.T) {
	if l, e := graph.Reach(example(), 0); !slices.Equal(l, []bool{true, true, true, false}) || e != api.OK {
		t.Error("P9.1: the example:", l, e)
	}
	for _, from := range []int{-1, 4, math.MaxInt, math.MinInt} {
		l, e := graph.Reach(example(), from)
		r, f := graph.Paths(example(), from)
		if l != nil || e != api.ErrArg || f != api.ErrArg || !reflect.DeepEqual(r, api.Routes{}) || graph.CheckPaths(example(), from, r) {
			t.Error("P9.1, P9.4: no node:", from, e, f)
		}
	}
	if _, e := graph.Reach(net(0), 0); e != api.ErrArg {
		t.Error("P9.1: no nodes:", e)
	}
	r := rand.New(rand.NewSource(1))
	for range 500 {
		n := randomNet(r, 0)
		for from, want := range closure(n) {
			if l, e := graph.Reach(n, from); !slices.Equal(l, want) || e != api.OK {
				t.Fatal("P9.1: Reach:", n, from, l)
			}
		}
	}
}

// leastOrder tries all orders, the least ones first.
func leastOrder(n api.Net, order []int) []int {
	if len(order) == n.Nodes {
		return order
	}
	for node := range n.Nodes {
		ok := !slices.Contains(order, node)
		for _, a := range n.Arcs {
			ok = ok && (a.To != node || slices.Contains(order, a.From))
		}
		if ok {
			if l := leastOrder(n, append(slices.Clone(order), node)); l != nil {
				return l
			}
		}
	}
	return nil
}

func TestOrderParts(t *testing.T) {
	if o, c, e := graph.Order(example()); !slices.Equal(o, []int{3, 0, 1, 2}) || c != nil || e != api.OK {
		t.Error("P9.2: the example:", o, c, e)
	}
	if p, _ := graph.Parts(example()); !reflect.DeepEqual(p, [][]int{{0}, {1}, {2}, {3}}) {
		t.Error("P9.3: the example:", p)
	}
	if p, _ := graph.Parts(example(arc(2, 0, 0))); !reflect.DeepEqual(p, [][]int{{0, 1, 2}, {3}}) {
		t.Error("P9.3: the example:", p)
	}
	if o, c, e := graph.Order(net(0)); len(o) != 0 || len(c) != 0 || e != api.OK {
		t.Error("P9.2: no nodes:", o, c, e)
	}
	if p, e := graph.Parts(net(0)); len(p) != 0 || e != api.OK {
		t.Error("P9.3: no nodes:", p, e)
	}
	r := rand.New(rand.NewSource(2))
	for range 2000 {
		n := randomNet(r, 0)
		if r.Intn(2) == 0 {
			for i, a := range n.Arcs {
				if a.From == a.To {
					n.Arcs[i].To = (a.To + 1) % n.Nodes
				}
			}
		}
		want := leastOrder(n, []int{})
		o, c, e := graph.Order(n)
		if !slices.Equal(o, want) || e != api.OK || (want == nil) != isCycle(n, c) || want != nil && len(c) > 0 {
			t.Fatal("P9.2:", n, o, c, e)
		}
		reach := closure(n)
		var parts [][]int
		loops := slices.ContainsFunc(n.Arcs, func(a api.Arc) bool { return a.From == a.To })
		for i := range n.Nodes {
			var part []int
			for k := range n.Nodes {
				if reach[i][k] && reach[k][i] {
					part = append(part, k)
				}
			}
			if part[0] == i {
				parts = append(parts, part)
			}
		}
		if p, e := graph.Parts(n); !reflect.DeepEqual(p, parts) || e != api.OK {
			t.Fatal("P9.3:", n, p)
		}
		if (len(parts) == n.Nodes && !loops) != (want != nil) {
			t.Fatal("P9.8:", n)
		}
	}
}

// slowPaths goes through all walks with fewer arcs than there are nodes; it returns Dist and Via, or that there is a bad cycle.
func slowPaths(n api.Net, from int) (api.Routes, bool) {
	const far = math.MaxInt / 2
	best := make([][]int, n.Nodes+1) // by the number of arcs: the least cost of walks with exactly so many
	for k := range best {
		best[k] = slices.Repeat([]int{far}, n.Nodes)
	}
	best[0][from] = 0
	for k := range n.Nodes {
		for _, a := range n.Arcs {
			if best[k][a.From] < far {
				best[k+1][a.To] = min(best[k+1][a.To], best[k][a.From]+a.Cost)
			}
		}
	}
	dist, length := slices.Repeat([]int{far}, n.Nodes), make([]int, n.Nodes)
	for k, l := range best {
		for node, d := range l {
			if d < dist[node] {
				if k == n.Nodes {
					return api.Routes{}, true
				}
				dist[node], length[node] = d, k
			}
		}
	}
	via := slices.Repeat([]int{-1}, n.Nodes)
	for node, d := range dist {
		for i := len(n.Arcs) - 1; i >= 0; i-- {
			a := n.Arcs[i]
			if a.To == node && node != from && d < far && dist[a.From] < far && length[a.From] == length[node]-1 && dist[a.From]+a.Cost == d {
				via[node] = i
			}
		}
	}
	for node, d := range dist {
		if d == far {
			dist[node] = 0
		}
	}
	return api.Routes{Dist: dist, Via: via}, false
}

func TestPaths(t *testing.T) {
	r, e := graph.Paths(example(), 0)
	if e != api.OK || !slices.Equal(r.Dist, []int{0, 2, 1, 0}) || !slices.Equal(r.Via, []int{-1, 0, 2, -1}) || len(r.Cycle) != 0 {
		t.Error("P9.4: the example:", r, e)
	}
	r, e = graph.Paths(example(arc(2, 1, 0)), 0)
	slices.Sort(r.Cycle)
	if e != api.OK || !slices.Equal(r.Cycle, []int{1, 4}) || len(r.Dist)+len(r.Via) != 0 {
		t.Error("P9.4: a cycle:", r, e)
	}
	if r, e := graph.Paths(net(1, arc(0, 0, -1)), 0); e != api.OK || !slices.Equal(r.Cycle, []int{0}) {
		t.Error("P9.4: an arc to itself:", r, e)
	}
	if r, e := graph.Paths(net(3, arc(1, 2, -5), arc(2, 1, 3), arc(0, 0, 0)), 0); e != api.OK || len(r.Cycle) != 0 || !slices.Equal(r.Via, []int{-1, -1, -1}) {
		t.Error("P9.4: a cycle that is not reached:", r, e)
	}
	rnd := rand.New(rand.NewSource(3))
	for range 4000 {
		n := randomNet(rnd, -rnd.Intn(4))
		from := rnd.Intn(n.Nodes)
		want, negative := slowPaths(n, from)
		r, e := graph.Paths(n, from)
		if e != api.OK || !graph.CheckPaths(n, from, r) {
			t.Fatal("P9.4, P9.7:", n, from, r, e)
		}
		if negative {
			sum := 0
			for _, i := range r.Cycle {
				sum += n.Arcs[i].Cost
			}
			if !isCycle(n, r.Cycle) || sum >= 0 || !closure(n)[from][n.Arcs[r.Cycle[0]].From] || len(r.Dist)+len(r.Via) > 0 {
				t.Fatal("P9.4: no bad cycle:", n, from, r)
			}
			continue
		}
		if len(r.Cycle) > 0 || !slices.Equal(r.Dist, want.Dist) || !slices.Equal(r.Via, want.Via) {
			t.Fatal("P9.4:", n, from, r, want)
		}
	}
	long := net(api.MaxNodes)
	for i := range api.MaxNodes - 1 {
		long.Arcs = append(long.Arcs, arc(i, i+1, -api.MaxCost))
	}
	if r, e := graph.Paths(long, 0); e != api.OK || r.Dist[255] != -255*api.MaxCost || !graph.CheckPaths(long, 0, r) {
		t.Error("P9.4: the longest path:", e)
	}
	long.Arcs = append(long.Arcs, arc(255, 0, 255*4096))
	if r, e := graph.Paths(long, 7); e != api.OK || len(r.Cycle) != 256 || !graph.CheckPaths(long, 7, r) {
		t.Error("P9.4: the longest cycle:", len(r.Cycle), e)
	}
}

// CheckPaths is tried with everything that is a little different.
func TestCheckPaths(t *testing.T) {
	n := example(arc(1, 1, 0), arc(2, 0, -1), arc(1, 2, -1))
	good, _ := graph.Paths(n, 0)
	clone := func() api.Routes { return api.Routes{Dist: slices.Clone(good.Dist), Via: slices.Clone(good.Via)} }
	other := clone()
	other.Via[2] = 1
	if !graph.CheckPaths(n, 0, other) {
		t.Error("P9.5: another shortest path")
	}
	other.Via[2] = 6
	if !graph.CheckPaths(n, 0, other) {
		t.Error("P9.5: a parallel arc")
	}
	for i, change := range []func(r *api.Routes){
		func(r *api.Routes) { r.Dist[0] = 1 }, func(r *api.Routes) { r.Dist[1]++ }, func(r *api.Routes) { r.Dist[2]-- }, func(r *api.Routes) { r.Dist[3] = 1 }, func(r *api.Routes) { r.Dist[3] = 1<<40 + 1 },
		func(r *api.Routes) { r.Dist[1] = math.MinInt }, func(r *api.Routes) { r.Via[0] = 5 }, func(r *api.Routes) { r.Via[1] = 4 }, func(r *api.Routes) { r.Via[1] = -1 }, func(r *api.Routes) { r.Via[1] = -2 }, func(r *api.Routes) { r.Via[1] = 7 },
		func(r *api.Routes) { r.Via[2] = 0 }, func(r *api.Routes) { r.Via[3] = 3 }, func(r *api.Routes) { r.Dist = r.Dist[:3] }, func(r *api.Routes) { r.Via = r.Via[:3] }, func(r *api.Routes) { r.Dist = append(r.Dist, 0) }, func(r *api.Routes) { r.Via = nil },
		func(r *api.Routes) { r.Cycle = []int{2, 5} }, func(r *api.Routes) { r.Dist[1], r.Dist[2] = 1, 0 }, func(r *api.Routes) { r.Dist[1], r.Dist[2] = 3, 1 },
	} {
		r := clone()
		change(&r)
		if graph.CheckPaths(n, 0, r) {
			t.Error("P9.5: a wrong answer is accepted:", i)
		}
	}
	// Arcs that lead in a circle without cost, and an arc from a node that is not reached, fit everywhere, but do not lead back.
	round := net(4, arc(0, 1, 5), arc(1, 2, 0), arc(2, 1, 0), arc(3, 1, 0))
	for i, r := range []api.Routes{{Dist: []int{0, 5, 5, 0}, Via: []int{-1, 2, 1, -1}}, {Dist: []int{0, 0, 0, 0}, Via: []int{-1, 3, 1, -1}}, {Dist: []int{0, 4, 4, 0}, Via: []int{-1, 2, 1, -1}}} {
		if graph.CheckPaths(round, 0, r) {
			t.Error("P9.5: arcs that do not lead back:", i)
		}
	}
	if !graph.CheckPaths(round, 0, api.Routes{Dist: []int{0, 5, 5, 0}, Via: []int{-1, 0, 1, -1}}) {
		t.Error("P9.5: arcs that lead back")
	}
	loops := example(arc(2, 1, 0), arc(3, 3, -1), arc(1, 1, 0), arc(2, 0, -1))
	for i, x := range []struct {
		from  int
		cycle []int
		ok    bool
	}{
		{0, []int{1, 4}, true}, {0, []int{4, 1}, true}, {3, []int{4, 1}, true}, {3, []int{5}, true}, {0, []int{5}, false}, {0, []int{6}, false}, {0, []int{1}, false}, {0, []int{1, 4, 1, 4}, false}, {0, []int{1, 6}, false}, {0, []int{2, 7}, false}, {0, []int{8}, false}, {0, []int{-1}, false}, {0, []int{1, -1}, false}, {0, []int{1, 99}, false},
		{0, []int{0, 1, 7}, false}, {0, []int{0, 2}, false},
	} {
		if graph.CheckPaths(loops, x.from, api.Routes{Cycle: x.cycle}) != x.ok {
			t.Error("P9.5: cycles:", i)
		}
	}
	if graph.CheckPaths(loops, 0, api.Routes{Cycle: []int{1, 4}, Dist: []int{0}}) || graph.CheckPaths(loops, 0, api.Routes{Cycle: []int{1, 4}, Via: []int{0}}) {
		t.Error("P9.5: a cycle and paths")
	}
}

func TestTrees(t *testing.T) {
	parents := []int{-1, 0, 0, 1}
	if l, e := graph.Depths(parents); !slices.Equal(l, []int{0, 1, 1, 2}) || e != api.OK {
		t.Error("P9.6: the example:", l, e)
	}
	if l, e := graph.Climb(parents, 3); !slices.Equal(l, []int{3, 1, 0}) || e != api.OK {
		t.Error("P9.6: the example:", l, e)
	}
	if l, e := graph.Below(parents, 1); !slices.Equal(l, []int{1, 3}) || e != api.OK {
		t.Error("P9.6: the example:", l, e)
	}
	if l, e := graph.Depths(nil); len(l) != 0 || e != api.OK {
		t.Error("P9.6: no nodes:", l, e)
	}
	for i, p := range [][]int{{0}, {1, 0}, {-2}, {1}, {-1, 2, 3, 1}, slices.Repeat([]int{-1}, api.MaxNodes+1), {math.MinInt}} {
		a, e := graph.Depths(p)
		b, f := graph.Climb(p, -1)
		c, g := graph.Below(p, 0)
		if a != nil || b != nil || c != nil || e != api.ErrForm || f != api.ErrForm || g != api.ErrForm {
			t.Error("P9.6: parents that are not well-formed:", i, e, f, g)
		}
	}
	for _, node := range []int{-1, 4, math.MaxInt} {
		a, e := graph.Climb(parents, node)
		b, f := graph.Below(parents, node)
		if a != nil || b != nil || e != api.ErrArg || f != api.ErrArg {
			t.Error("P9.6: no node:", node, e, f)
		}
	}
	chain := make([]int, api.MaxNodes)
	for i := range chain {
		chain[i] = i - 1
	}
	if l, e := graph.Depths(chain); e != api.OK || l[255] != 255 {
		t.Error("P9.6: the deepest tree:", e)
	}
	r := rand.New(rand.NewSource(4))
	for range 300 {
		p := make([]int, 1+r.Intn(9))
		for i := range p {
			p[i] = r.Intn(i+1) - 1
		}
		depths, _ := graph.Depths(p)
		for node := range p {
			climb, e := graph.Climb(p, node)
			if e != api.OK || climb[0] != node || p[climb[len(climb)-1]] != -1 || depths[node] != len(climb)-1 {
				t.Fatal("P9.6, P9.9:", p, node, climb)
			}
			for i, x := range climb[1:] {
				if p[climb[i]] != x {
					t.Fatal("P9.6: Climb:", p, node, climb)
				}
			}
			below, e := graph.Below(p, node)
			if e != api.OK || !slices.IsSorted(below) {
				t.Fatal("P9.6: Below:", p, node, below)
			}
			for other := range p {
				up, _ := graph.Climb(p, other)
				if slices.Contains(below, other) != slices.Contains(up, node) {
					t.Fatal("P9.9:", p, node, below)
				}
			}
		}
	}
}
