package cost_test

import (
	"math"
	"math/rand"
	"reflect"
	"slices"
	"testing"

	"weirgate/api"
	"weirgate/cost"
)

func arc(from, to, cap, cost int) api.Arc { return api.Arc{From: from, To: to, Cap: cap, Cost: cost} }

func net(nodes int, arcs ...api.Arc) api.Net { return api.Net{Nodes: nodes, Arcs: arcs} }

func example() api.Net {
	return net(4, arc(0, 1, 4, 1), arc(0, 2, 4, 2), arc(1, 3, 3, 1), arc(2, 3, 4, 1), arc(1, 2, 4, 0))
}

func randomNet(r *rand.Rand) api.Net {
	n := net(2 + r.Intn(5))
	for range r.Intn(14) {
		from := r.Intn(n.Nodes)
		n.Arcs = append(n.Arcs, arc(from, (from+1+r.Intn(n.Nodes-1))%n.Nodes, r.Intn(5), r.Intn(6)))
	}
	return n
}

// slowCosts returns the least costs of sending 0, 1, 2, .. units, by one cheapest way after the other.
func slowCosts(n api.Net, from, to int) []int {
	const far = math.MaxInt / 2
	flow := make([]int, len(n.Arcs))
	costs := []int{0}
	for {
		dist, via := slices.Repeat([]int{far}, n.Nodes), make([]int, n.Nodes)
		dist[from] = 0
		for range n.Nodes {
			for i, a := range n.Arcs {
				if flow[i] < a.Cap && dist[a.From] < far && dist[a.From]+a.Cost < dist[a.To] {
					dist[a.To], via[a.To] = dist[a.From]+a.Cost, i
				}
				if flow[i] > 0 && dist[a.To] < far && dist[a.To]-a.Cost < dist[a.From] {
					dist[a.From], via[a.From] = dist[a.To]-a.Cost, -1-i
				}
			}
		}
		if dist[to] == far {
			return costs
		}
		for node := to; node != from; {
			if i := via[node]; i >= 0 {
				flow[i]++
				node = n.Arcs[i].From
			} else {
				flow[-1-i]--
				node = n.Arcs[-1-i].To
			}
		}
		costs = append(costs, costs[len(costs)-1]+dist[to])
	}
}

func TestCheck(t *testing.T) {
	for i, x := range []struct {
		n api.Net
		e api.Errno
	}{
		{net(1), 0}, {example(), 0}, {net(2, arc(0, 1, api.MaxCap, api.MaxCost)), 0}, {net(api.MaxNodes, slices.Repeat([]api.Arc{arc(255, 0, 1, 1)}, api.MaxArcs)...), 0},
		{net(api.MaxNodes + 1), 2}, {net(0, slices.Repeat([]api.Arc{arc(9, 9, 1, 1)}, api.MaxArcs+1)...), 2}, {net(0), 1}, {net(-1), 1}, {net(2, arc(0, 0, 1, 1)), 1}, {net(2, arc(0, 2, 1, 1)), 1}, {net(2, arc(-1, 1, 1, 1)), 1},
		{net(2, arc(0, 1, -1, 1)), 1}, {net(2, arc(0, 1, api.MaxCap+1, 1)), 1}, {net(2, arc(0, 1, 1, -1)), 1}, {net(2, arc(0, 1, 1, api.MaxCost+1)), 1}, {net(2, arc(0, math.MinInt, 1, 1)), 1},
	} {
		if e := cost.Check(x.n); e != x.e {
			t.Error("P11.1:", i, e)
		}
		if f, e := cost.Send(x.n, 0, 1, -1); e == api.OK || x.e != api.OK && e != x.e || !reflect.DeepEqual(f, api.Freight{}) {
			t.Error("P11.2: the error of Check:", i, e)
		}
	}
	for i, x := range [][3]int{{0, 0, 1}, {-1, 3, 1}, {0, 4, 1}, {0, 3, -1}, {0, 3, api.MaxAmount + 1}, {math.MaxInt, 3, 1}} {
		if f, e := cost.Send(example(), x[0], x[1], x[2]); e != api.ErrArg || !reflect.DeepEqual(f, api.Freight{}) {
			t.Error("P11.2: no task:", i, e)
		}
	}
}

func TestExamples(t *testing.T) {
	n := example()
	for i, x := range []struct {
		amount, sent, cost int
		cut                []int
		next               int
		more               bool
	}{{3, 3, 6, nil, 2, true}, {4, 4, 8, nil, 3, true}, {8, 7, 17, []int{0, 1, 2}, 0, false}, {0, 0, 0, nil, 2, true}, {7, 7, 17, nil, 0, false}} {
		f, e := cost.Send(n, 0, 3, x.amount)
		if e != api.OK || f.Sent != x.sent || f.Cost != x.cost || !slices.Equal(f.Cut, x.cut) || cost.Accept(n, 0, 3, x.amount, f) != api.OK {
			t.Error("P11.2:", i, f, e)
		}
		if next, more := cost.Next(n, 0, 3, f); next != x.next || more != x.more {
			t.Error("P11.4:", i, next, more)
		}
	}
}

func TestSend(t *testing.T) {
	r := rand.New(rand.NewSource(1))
	for range 1500 {
		n := randomNet(r)
		from := r.Intn(n.Nodes)
		to := (from + 1 + r.Intn(n.Nodes-1)) % n.Nodes
		costs := slowCosts(n, from, to)
		old := slices.Clone(n.Arcs)
		last := -1
		for amount := range len(costs) + 2 {
			f, e := cost.Send(n, from, to, amount)
			sent := min(amount, len(costs)-1)
			if e != api.OK || f.Sent != sent || f.Cost != costs[sent] {
				t.Fatal("P11.2, P11.5:", n, from, to, amount, f, e, costs)
			}
			if e := cost.Accept(n, from, to, amount, f); e != api.OK {
				t.Fatal("P11.2: Send is not accepted:", n, from, to, amount, f, e)
			}
			next, more := cost.Next(n, from, to, f)
			if more != (sent < len(costs)-1) || more && (next != costs[sent+1]-costs[sent] || next < last) || !more && next != 0 {
				t.Fatal("P11.4, P11.6:", n, from, to, f, next, more)
			}
			if more {
				last = next
			}
			if wider := slices.Clone(n.Arcs); len(wider) > 0 {
				i := r.Intn(len(wider))
				wider[i].Cap += r.Intn(3)
				wider[i].Cost = max(0, wider[i].Cost-r.Intn(3))
				if g, _ := cost.Send(net(n.Nodes, wider...), from, to, sent); g.Sent != sent || g.Cost > f.Cost {
					t.Fatal("P11.7:", n, from, to, sent)
				}
			}
			refuse(t, n, from, to, amount, f)
		}
		if !slices.Equal(n.Arcs, old) {
			t.Fatal("Send has changed its argument")
		}
	}
}

func clone(f api.Freight) api.Freight {
	f.Flow, f.Price, f.Cut = slices.Clone(f.Flow), slices.Clone(f.Price), slices.Clone(f.Cut)
	return f
}

// refuse checks that Accept refuses freights that are a little different.
func refuse(t *testing.T, n api.Net, from, to, amount int, f api.Freight) {
	no := func(what string, change func(g *api.Freight)) {
		g := clone(f)
		change(&g)
		if e := cost.Accept(n, from, to, amount, g); e != api.ErrProof {
			t.Fatal("P11.3:", what, n, from, to, amount, g, e)
		}
	}
	no("Sent", func(g *api.Freight) { g.Sent++ })
	no("Sent", func(g *api.Freight) { g.Sent-- })
	no("Cost", func(g *api.Freight) { g.Cost++ })
	no("Flow", func(g *api.Freight) { g.Flow = append(g.Flow, 0) })
	no("Price", func(g *api.Freight) { g.Price = g.Price[1:] })
	no("Price", func(g *api.Freight) { g.Price[from] = 1 })
	no("Price", func(g *api.Freight) { g.Price[to] = -1 })
	no("Price", func(g *api.Freight) { g.Price[to] = 1<<30 + 1 })
	no("Cut", func(g *api.Freight) { g.Cut = append(g.Cut, 99) })
	no("Cut", func(g *api.Freight) { g.Cut = append(g.Cut, -1) })
	no("Cut", func(g *api.Freight) { g.Cut = append(g.Cut, g.Cut...); g.Cut = append(g.Cut, from, from) })
	if len(f.Cut) > 0 {
		no("Cut", func(g *api.Freight) { g.Cut = nil })
		no("Cut", func(g *api.Freight) {
			g.Cut = slices.DeleteFunc(g.Cut, func(x int) bool { return x == from })
		})
		no("Cut", func(g *api.Freight) { g.Cut = append(g.Cut, to); slices.Sort(g.Cut) })
	} else {
		no("Cut", func(g *api.Freight) { g.Cut = []int{from} })
	}
	for i, a := range n.Arcs {
		no("Flow", func(g *api.Freight) { g.Flow[i]++; g.Cost += a.Cost })
		no("Flow", func(g *api.Freight) { g.Flow[i]--; g.Cost -= a.Cost })
	}
}

// Freights that are flows, but not the cheapest ones, or whose prices or cuts do not show it, are refused.
func TestAccept(t *testing.T) {
	n := net(3, arc(0, 1, 2, 1), arc(1, 2, 2, 1), arc(0, 2, 2, 5))
	good := api.Freight{Sent: 2, Cost: 4, Flow: []int{2, 2, 0}, Price: []int{0, 1, 2}}
	for i, x := range []struct {
		amount int
		f      api.Freight
		e      api.Errno
	}{
		{2, good, 0},
		{2, api.Freight{Sent: 2, Cost: 4, Flow: []int{2, 2, 0}, Price: []int{0, 3, 5}}, 0},
		{2, api.Freight{Sent: 2, Cost: 4, Flow: []int{2, 2, 0}, Price: []int{0, 3, 6}}, 110},
		{2, api.Freight{Sent: 2, Cost: 4, Flow: []int{2, 2, 0}, Price: []int{0, 0, 1}}, 110},
		{2, api.Freight{Sent: 2, Cost: 4, Flow: []int{2, 2, 0}, Price: []int{0, 1, 1}}, 110},
		{2, api.Freight{Sent: 2, Cost: 7, Flow: []int{1, 1, 1}, Price: []int{0, 1, 2}}, 110},
		{2, api.Freight{Sent: 2, Cost: 7, Flow: []int{1, 1, 1}, Price: []int{0, 1, 5}}, 110},
		{3, api.Freight{Sent: 3, Cost: 9, Flow: []int{2, 2, 1}, Price: []int{0, 1, 5}}, 0},
		{3, good, 110},
		{2, api.Freight{Sent: 2, Cost: 4, Flow: []int{2, 2, 0}, Price: []int{0, 1, 2}, Cut: []int{0}}, 110},
		{9, api.Freight{Sent: 4, Cost: 14, Flow: []int{2, 2, 2}, Price: []int{0, 4, 5}, Cut: []int{0}}, 0},
		{9, api.Freight{Sent: 4, Cost: 14, Flow: []int{2, 2, 2}, Price: []int{0, 4, 5}, Cut: []int{0, 1}}, 0},
		{9, api.Freight{Sent: 4, Cost: 14, Flow: []int{2, 2, 2}, Price: []int{0, 4, 5}, Cut: []int{1, 0}}, 110},
		{9, api.Freight{Sent: 4, Cost: 14, Flow: []int{2, 2, 2}, Price: []int{0, 4, 5}, Cut: []int{1}}, 110},
		{9, api.Freight{Sent: 4, Cost: 14, Flow: []int{2, 2, 2}, Price: []int{0, 4, 5}, Cut: []int{0, 1, 2}}, 110},
		{9, api.Freight{Sent: 4, Cost: 14, Flow: []int{2, 2, 2}, Price: []int{0, 4, 5}, Cut: []int{0, 0}}, 110},
		{9, api.Freight{Sent: 4, Cost: 14, Flow: []int{2, 2, 2}, Price: []int{0, 4, 5}, Cut: []int{0, math.MaxInt}}, 110},
		{4, api.Freight{Sent: 4, Cost: 14, Flow: []int{2, 2, 2}, Price: []int{0, 1<<30 - 1, 1 << 30}}, 0},
		{2, api.Freight{}, 110},
	} {
		if e := cost.Accept(n, 0, 2, x.amount, x.f); e != x.e {
			t.Error("P11.3:", i, e)
		}
	}
	// An arc into the cut that bears something could give room.
	back := net(4, arc(0, 1, 1, 0), arc(1, 2, 1, 0), arc(2, 0, 1, 0), arc(1, 3, 1, 0))
	if e := cost.Accept(back, 0, 3, 9, api.Freight{Sent: 0, Cost: 0, Flow: []int{1, 1, 1, 0}, Price: []int{0, 0, 0, 0}, Cut: []int{0}}); e != api.ErrProof {
		t.Error("P11.3: flow into the cut:", e)
	}
}

// Large numbers neither overflow nor take long.
func TestLarge(t *testing.T) {
	wide := net(2, slices.Repeat([]api.Arc{arc(0, 1, api.MaxCap, api.MaxCost)}, api.MaxArcs)...)
	f, e := cost.Send(wide, 0, 1, api.MaxAmount)
	if e != api.OK || f.Sent != api.MaxAmount || f.Cost != api.MaxAmount*api.MaxCost || cost.Accept(wide, 0, 1, api.MaxAmount, f) != api.OK {
		t.Error("P11.2: the greatest freight:", f.Sent, f.Cost, e)
	}
	r := rand.New(rand.NewSource(2))
	for range 5 {
		n := net(api.MaxNodes)
		for range api.MaxArcs {
			from := r.Intn(255)
			n.Arcs = append(n.Arcs, arc(from, (from+1+r.Intn(255))%256, r.Intn(api.MaxCap+1), r.Intn(api.MaxCost+1)))
		}
		f, e := cost.Send(n, 0, 255, api.MaxAmount)
		if e != api.OK || f.Sent == 0 || cost.Accept(n, 0, 255, api.MaxAmount, f) != api.OK {
			t.Error("P11.2: a great network:", f.Sent, e)
		}
	}
	chain := net(api.MaxNodes)
	for i := range 255 {
		chain.Arcs = append(chain.Arcs, arc(i, i+1, 5, api.MaxCost), arc(i, i+1, 5, api.MaxCost-1))
	}
	if f, e := cost.Send(chain, 0, 255, 99); e != api.OK || f.Sent != 10 || cost.Accept(chain, 0, 255, 99, f) != api.OK {
		t.Error("P11.2: the longest way:", f.Sent, e)
	}
}
