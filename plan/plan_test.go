package plan_test

import (
	"math"
	"math/rand"
	"reflect"
	"testing"

	"weirgate/api"
	"weirgate/cost"
	"weirgate/flow"
	"weirgate/plan"
)

func example() api.Plant {
	return api.Plant{
		Places: []api.Spot{{Kind: 1, Num: 1, Cap: 5}, {Kind: 1, Num: 2, Cap: 3}, {Kind: 2, Num: 10, Cap: 6}, {Kind: 3, Num: 7, Cap: 4}},
		Roads:  []api.Road{{From: 0, To: 2, Cap: 9, Cost: 1}, {From: 1, To: 2, Cap: 9, Cost: 2}, {From: 2, To: 3, Cap: 9, Cost: 1}, {From: 1, To: 3, Cap: 1, Cost: 5}},
	}
}

func copyOf(p api.Plant) api.Plant {
	return api.Plant{Places: append([]api.Spot(nil), p.Places...), Roads: append([]api.Road(nil), p.Roads...)}
}

// randomPlant has sites, shields and origins, in any order, and roads between them.
func randomPlant(r *rand.Rand) api.Plant {
	var p api.Plant
	for i := range 1 + r.Intn(9) {
		p.Places = append(p.Places, api.Spot{Kind: 1 + r.Intn(3), Num: i + 1, Cap: r.Intn(9)})
	}
	for range r.Intn(30) {
		from, to := r.Intn(len(p.Places)), r.Intn(len(p.Places))
		if from != to && p.Places[from].Kind != api.PlOrigin && p.Places[to].Kind != api.PlSite {
			p.Roads = append(p.Roads, api.Road{From: from, To: to, Cap: r.Intn(8), Cost: r.Intn(4)})
		}
	}
	return p
}

func TestCheck(t *testing.T) {
	change := func(f func(p *api.Plant)) api.Plant {
		p := copyOf(example())
		f(&p)
		return p
	}
	place := func(i int, s api.Spot) api.Plant { return change(func(p *api.Plant) { p.Places[i] = s }) }
	road := func(i int, r api.Road) api.Plant { return change(func(p *api.Plant) { p.Roads[i] = r }) }
	many := func(n, roads int) api.Plant {
		p := api.Plant{Places: []api.Spot{{Kind: 1}}}
		for i := range n - 1 {
			p.Places = append(p.Places, api.Spot{Kind: 2, Num: i + 1})
		}
		for range roads {
			p.Roads = append(p.Roads, api.Road{From: 0, To: 1})
		}
		return p
	}
	for i, x := range []struct {
		p api.Plant
		e api.Errno
	}{
		{api.Plant{}, 0}, {example(), 0}, {many(api.MaxPlaces, api.MaxRoads), 0}, {many(api.MaxPlaces+1, 0), api.ErrLimit}, {many(2, api.MaxRoads+1), api.ErrLimit},
		{api.Plant{Places: make([]api.Spot, api.MaxPlaces+1)}, api.ErrLimit},
		{place(0, api.Spot{Kind: 1, Num: 0, Cap: api.MaxCap}), 0}, {place(0, api.Spot{Kind: 1, Num: api.MaxSites - 1}), 0}, {place(0, api.Spot{Kind: 1, Num: api.MaxSites}), api.ErrPlace}, {place(0, api.Spot{Kind: 1, Num: -1}), api.ErrPlace},
		{place(2, api.Spot{Kind: 2, Num: 0}), api.ErrPlace}, {place(2, api.Spot{Kind: 2, Num: 1}), 0}, {place(2, api.Spot{Kind: 2, Num: api.MaxParty}), 0}, {place(2, api.Spot{Kind: 2, Num: api.MaxParty + 1}), api.ErrPlace},
		{place(3, api.Spot{Kind: 3, Num: 0}), api.ErrPlace}, {place(3, api.Spot{Kind: 3, Num: api.MaxParty}), 0}, {place(3, api.Spot{Kind: 3, Num: 10}), 0}, {place(3, api.Spot{Kind: 3, Num: math.MinInt}), api.ErrPlace},
		{place(2, api.Spot{Kind: 0, Num: 1}), api.ErrPlace}, {place(2, api.Spot{Kind: 4, Num: 1}), api.ErrPlace}, {place(0, api.Spot{Kind: 1, Cap: -1}), api.ErrPlace}, {place(0, api.Spot{Kind: 1, Cap: api.MaxCap + 1}), api.ErrPlace},
		{place(1, api.Spot{Kind: 1, Num: 1}), api.ErrTwice},
		{change(func(p *api.Plant) { p.Places[1].Num, p.Places[2].Kind = 1, 9 }), api.ErrTwice},
		{change(func(p *api.Plant) { p.Places[1].Num, p.Places[0].Cap = 1, -1 }), api.ErrPlace},
		{change(func(p *api.Plant) { p.Places[1].Num, p.Roads[0].Cap = 1, -1 }), api.ErrTwice},
		{road(0, api.Road{From: 0, To: 2, Cap: api.MaxCap, Cost: api.MaxCost}), 0}, {road(0, api.Road{From: 0, To: 3}), 0}, {road(0, api.Road{From: 0, To: 1}), api.ErrPlace}, {road(0, api.Road{From: 3, To: 2}), api.ErrPlace}, {road(0, api.Road{From: 2, To: 2}), api.ErrPlace},
		{road(0, api.Road{From: -1, To: 2}), api.ErrPlace}, {road(0, api.Road{From: 4, To: 2}), api.ErrPlace}, {road(0, api.Road{From: 0, To: 4}), api.ErrPlace}, {road(0, api.Road{From: 0, To: -1}), api.ErrPlace},
		{road(3, api.Road{From: 0, To: 2, Cap: -1}), api.ErrPlace}, {road(3, api.Road{From: 0, To: 2, Cap: api.MaxCap + 1}), api.ErrPlace}, {road(3, api.Road{From: 0, To: 2, Cost: -1}), api.ErrPlace}, {road(3, api.Road{From: 0, To: 2, Cost: api.MaxCost + 1}), api.ErrPlace},
	} {
		if e := plan.Check(x.p); e != x.e {
			t.Error("P40.1:", i, e)
		}
		f, e := plan.Make(x.p)
		if e != x.e || e != api.OK && !reflect.DeepEqual(f, api.Freight{}) {
			t.Error("P40.2: Make:", i, e)
		}
		if a := plan.Accept(x.p, f); a != x.e {
			t.Error("P40.2: Accept:", i, a)
		}
	}
}

func TestNet(t *testing.T) {
	want := api.Net{Nodes: 10, Arcs: []api.Arc{
		{From: 2, To: 3, Cap: 5}, {From: 4, To: 5, Cap: 3}, {From: 6, To: 7, Cap: 6}, {From: 8, To: 9, Cap: 4},
		{From: 0, To: 2, Cap: 5}, {From: 0, To: 4, Cap: 3}, {From: 9, To: 1, Cap: 4},
		{From: 3, To: 6, Cap: 9, Cost: 1}, {From: 5, To: 6, Cap: 9, Cost: 2}, {From: 7, To: 8, Cap: 9, Cost: 1}, {From: 5, To: 8, Cap: 1, Cost: 5},
	}}
	if n := plan.Net(example()); !reflect.DeepEqual(n, want) {
		t.Error("P40.1: the network:", n)
	}
	if n := plan.Net(api.Plant{}); n.Nodes != 2 || len(n.Arcs) != 0 {
		t.Error("P40.1: no places:", n)
	}
	full := api.Plant{}
	for i := range api.MaxSites {
		full.Places = append(full.Places, api.Spot{Kind: 1, Num: i, Cap: api.MaxCap})
	}
	if plan.Demand(example()) != 8 || plan.Demand(api.Plant{}) != 0 || plan.Demand(full) != api.MaxSites*api.MaxCap {
		t.Error("P40.1: Demand")
	}
	if f, e := plan.Make(full); e != api.OK || f.Sent != 0 || len(plan.Short(full, f)) != api.MaxSites {
		t.Error("P40.2: no roads:", f.Sent, e)
	}
}

func TestExamples(t *testing.T) {
	p := example()
	f, e := plan.Make(p)
	if e != api.OK || f.Sent != 4 || f.Cost != 8 {
		t.Fatal("P40.2:", f, e)
	}
	for place, n := range []int{4, 0, 4, 4, 0} {
		if got := plan.Served(p, f, place); got != n {
			t.Error("P40.3:", place, got)
		}
	}
	if plan.Served(p, f, -1) != 0 || plan.Served(p, f, math.MaxInt) != 0 {
		t.Error("P40.3: no place")
	}
	if s := plan.Short(p, f); !reflect.DeepEqual(s, []int{0, 1}) {
		t.Error("P40.3: short:", s)
	}
	if a := plan.Allots(p, f); !reflect.DeepEqual(a, []api.Allot{{Gate: 10, Origin: 7, N: 4}}) {
		t.Error("P40.4:", a)
	}
	if way, e := plan.Route(p, f, 0, 3); e != api.OK || !reflect.DeepEqual(way, []int{0, 2, 3}) {
		t.Error("P40.5:", way, e)
	}
	for _, x := range []struct {
		place, n int
		e        api.Errno
	}{{2, 0, api.ErrName}, {3, 0, api.ErrName}, {4, -1, api.ErrName}, {-1, 0, api.ErrName}, {0, -1, api.ErrArg}, {0, 4, api.ErrArg}, {1, 0, api.ErrArg}} {
		if way, e := plan.Route(p, f, x.place, x.n); e != x.e || way != nil {
			t.Error("P40.5: errors:", x, way, e)
		}
	}
	bad := f
	bad.Cost++
	if plan.Accept(p, f) != api.OK || plan.Accept(p, bad) != api.ErrProof || plan.Accept(p, api.Freight{}) != api.ErrProof {
		t.Error("P40.2: Accept")
	}
}

func TestAllots(t *testing.T) {
	p := api.Plant{
		Places: []api.Spot{{Kind: 3, Num: 5, Cap: 4}, {Kind: 2, Num: 9, Cap: 20}, {Kind: 1, Num: 0, Cap: 9}, {Kind: 2, Num: 8, Cap: 1}, {Kind: 3, Num: 4, Cap: 9}},
		Roads: []api.Road{
			{From: 3, To: 4, Cap: 2}, {From: 2, To: 1, Cap: 9}, {From: 1, To: 0, Cap: 1}, {From: 1, To: 4, Cap: 3, Cost: 9},
			{From: 1, To: 0, Cap: 2, Cost: 1}, {From: 3, To: 1, Cap: 9}, {From: 2, To: 4, Cap: 1, Cost: 2}, {From: 1, To: 3, Cap: 9},
		},
	}
	f, e := plan.Make(p)
	if e != api.OK || f.Sent != 8 || !reflect.DeepEqual(plan.Short(p, f), []int{2}) {
		t.Fatal("P40.2:", f, e)
	}
	want := []api.Allot{{Gate: 8, Origin: 4, N: 1}, {Gate: 9, Origin: 5, N: 3}, {Gate: 9, Origin: 4, N: 3}}
	if a := plan.Allots(p, f); !reflect.DeepEqual(a, want) {
		t.Error("P40.4:", a)
	}
	ways := map[string]int{}
	for i := range 8 {
		way, e := plan.Route(p, f, 2, i)
		if e != api.OK {
			t.Fatal("P40.5:", i, e)
		}
		s := ""
		for _, place := range way {
			s += string(rune('0' + place))
		}
		ways[s]++
	}
	if !reflect.DeepEqual(ways, map[string]int{"210": 3, "2134": 1, "214": 3, "24": 1}) {
		t.Error("P40.5:", ways)
	}
}

func TestBetween(t *testing.T) {
	a := []api.Allot{{Gate: 1, Origin: 1, N: 5}, {Gate: 2, Origin: 1, N: 3}, {Gate: 1, Origin: 2, N: 0}, {Gate: 3, Origin: 1, N: 1}}
	b := []api.Allot{{Gate: 1, Origin: 2, N: 7}, {Gate: 2, Origin: 1, N: 9}, {Gate: 1, Origin: 1, N: 2}, {Gate: 1, Origin: 3, N: 2}}
	if c := plan.Between(a, b); !reflect.DeepEqual(c, []api.Allot{{Gate: 1, Origin: 1, N: 2}, {Gate: 2, Origin: 1, N: 3}, {Gate: 1, Origin: 2}}) {
		t.Error("P40.6:", c)
	}
	if plan.Between(a, nil) != nil || plan.Between(nil, b) != nil || plan.Between(nil, nil) != nil {
		t.Error("P40.6: nothing in both")
	}
}

// slowRoutes returns the ways of the requests of a site, from the definition.
func slowRoutes(p api.Plant, f api.Freight, site int) [][]int {
	n := plan.Net(p)
	ways, times, _ := flow.Paths(n, 0, 1, f.Flow)
	var all [][]int
	for i, way := range ways {
		var l []int
		for _, arc := range way {
			if to := n.Arcs[arc].To; to%2 == 0 {
				l = append(l, (to-2)/2)
			}
		}
		for range times[i] {
			if l[0] == site {
				all = append(all, l)
			}
		}
	}
	return all
}

func TestRandom(t *testing.T) {
	r := rand.New(rand.NewSource(40))
	for range 600 {
		p := randomPlant(r)
		f, e := plan.Make(p)
		if e != api.OK || plan.Accept(p, f) != api.OK {
			t.Fatal("P40.2:", p, e)
		}
		n := plan.Net(p)
		most, _, _ := flow.Most(n, 0, 1)
		if value := flow.Value(n, 0, most); f.Sent != min(value, plan.Demand(p)) {
			t.Fatal("P40.8:", p, f.Sent, value)
		}
		if best, _ := cost.Send(n, 0, 1, plan.Demand(p)); best.Cost != f.Cost {
			t.Fatal("P40.9:", p)
		}
		if flow.Check(n, 0, 1, f.Flow) != api.OK {
			t.Fatal("P40.7: the capacities:", p)
		}
		checkSums(t, p, f)
		checkRoutes(t, p, f)
	}
}

func checkSums(t *testing.T, p api.Plant, f api.Freight) {
	t.Helper()
	byKind := map[int]int{}
	short := []int(nil)
	for i, s := range p.Places {
		byKind[s.Kind] += plan.Served(p, f, i)
		if s.Kind == api.PlSite && plan.Served(p, f, i) < s.Cap {
			short = append(short, i)
		}
	}
	if byKind[api.PlSite] != f.Sent || byKind[api.PlOrigin] != f.Sent {
		t.Fatal("P40.7: what is served:", p, byKind, f.Sent)
	}
	if !reflect.DeepEqual(plan.Short(p, f), short) {
		t.Fatal("P40.3: short:", p, f)
	}
	direct, begin := 0, len(f.Flow)-len(p.Roads)
	for i, road := range p.Roads {
		if p.Places[road.From].Kind == api.PlSite && p.Places[road.To].Kind == api.PlOrigin {
			direct += f.Flow[begin+i]
		}
	}
	allots := plan.Allots(p, f)
	sum, gates, origins := 0, map[int]int{}, map[int]int{}
	for _, a := range allots {
		sum += a.N
		gates[a.Gate] += a.N
		origins[a.Origin] += a.N
	}
	if sum != f.Sent-direct {
		t.Fatal("P40.7: what is allotted:", p, allots)
	}
	for _, s := range p.Places {
		if s.Kind == api.PlShield && gates[s.Num] > s.Cap || s.Kind == api.PlOrigin && origins[s.Num] > s.Cap {
			t.Fatal("P40.7: the capacities:", p, allots)
		}
	}
	for _, a := range plan.Between(allots, allots) {
		sum -= a.N
	}
	if sum != 0 {
		t.Fatal("P40.6: of a list and itself:", allots)
	}
}

func checkRoutes(t *testing.T, p api.Plant, f api.Freight) {
	t.Helper()
	passed := make([]int, len(p.Places))
	for site, s := range p.Places {
		if s.Kind != api.PlSite {
			continue
		}
		want := slowRoutes(p, f, site)
		if len(want) != plan.Served(p, f, site) {
			t.Fatal("P40.5: the number of ways:", p)
		}
		for i, l := range want {
			way, e := plan.Route(p, f, site, i)
			if e != api.OK || !reflect.DeepEqual(way, l) {
				t.Fatal("P40.5:", p, site, i, way, l)
			}
			for _, place := range way {
				passed[place]++
			}
		}
	}
	for i, s := range p.Places {
		if passed[i] > s.Cap {
			t.Fatal("P40.10:", p, i, passed)
		}
	}
}

func TestTwoPlans(t *testing.T) {
	r := rand.New(rand.NewSource(41))
	for range 300 {
		p := randomPlant(r)
		q := copyOf(p)
		for i := range q.Places {
			q.Places[i].Cap = r.Intn(9)
		}
		f, _ := plan.Make(p)
		g, _ := plan.Make(q)
		gates, origins := map[int]int{}, map[int]int{}
		for _, a := range plan.Between(plan.Allots(p, f), plan.Allots(q, g)) {
			gates[a.Gate] += a.N
			origins[a.Origin] += a.N
		}
		for _, s := range append(append([]api.Spot(nil), p.Places...), q.Places...) {
			if s.Kind == api.PlShield && gates[s.Num] > s.Cap || s.Kind == api.PlOrigin && origins[s.Num] > s.Cap {
				t.Fatal("P40.11:", p, q)
			}
		}
	}
}

func TestLarge(t *testing.T) {
	r := rand.New(rand.NewSource(42))
	var p api.Plant
	for i := range api.MaxPlaces {
		kind := api.PlShield
		if i < 40 {
			kind = api.PlSite
		} else if i >= 90 {
			kind = api.PlOrigin
		}
		p.Places = append(p.Places, api.Spot{Kind: kind, Num: i + 1, Cap: 1 + r.Intn(api.MaxCap)})
	}
	for len(p.Roads) < api.MaxRoads {
		from, to := r.Intn(90), 40+r.Intn(60)
		if from != to {
			p.Roads = append(p.Roads, api.Road{From: from, To: to, Cap: r.Intn(api.MaxCap + 1), Cost: r.Intn(api.MaxCost + 1)})
		}
	}
	f, e := plan.Make(p)
	if e != api.OK || plan.Accept(p, f) != api.OK {
		t.Fatal("P40.2: a large plant:", e)
	}
	checkSums(t, p, f)
	for site := range 40 {
		if n := plan.Served(p, f, site); n > 0 {
			first, e := plan.Route(p, f, site, 0)
			last, e2 := plan.Route(p, f, site, n-1)
			if e != api.OK || e2 != api.OK || first[0] != site || last[0] != site || p.Places[last[len(last)-1]].Kind != api.PlOrigin {
				t.Fatal("P40.5: a large plant:", first, last)
			}
		}
	}
}
