package refuse_test

import (
	"math"
	"math/rand"
	"reflect"
	"slices"
	"testing"

	"weirgate/api"
	"weirgate/flow"
	"weirgate/plan"
	"weirgate/refuse"
	"weirgate/seal"
	"weirgate/wire"
)

func example() api.Plant {
	return api.Plant{
		Places: []api.Spot{{Kind: 1, Num: 1, Cap: 5}, {Kind: 1, Num: 2, Cap: 3}, {Kind: 2, Num: 10, Cap: 6}, {Kind: 3, Num: 7, Cap: 4}},
		Roads:  []api.Road{{From: 0, To: 2, Cap: 9, Cost: 1}, {From: 1, To: 2, Cap: 9, Cost: 2}, {From: 2, To: 3, Cap: 9, Cost: 1}, {From: 1, To: 3, Cap: 1, Cost: 5}},
	}
}

func randomPlant(r *rand.Rand) api.Plant {
	var p api.Plant
	for i := range 1 + r.Intn(9) {
		p.Places = append(p.Places, api.Spot{Kind: 1 + r.Intn(3), Num: i + 1, Cap: r.Intn(6)})
	}
	for range r.Intn(30) {
		from, to := r.Intn(len(p.Places)), r.Intn(len(p.Places))
		if from != to && p.Places[from].Kind != api.PlOrigin && p.Places[to].Kind != api.PlSite {
			p.Roads = append(p.Roads, api.Road{From: from, To: to, Cap: r.Intn(8), Cost: r.Intn(4)})
		}
	}
	return p
}

func key(site int) api.Key {
	return api.Key{Party: api.SiteParty + site, Serial: 3, Secret: "s", From: 5, To: 1000}
}

var noRefusal = api.Refusal{}

func at(lo, hi int) api.Period { return api.Period{Lo: lo, Hi: hi} }

// all returns the refusals of all requests that a plan does not serve.
func all(t *testing.T, p api.Plant, f api.Freight) []api.Refusal {
	t.Helper()
	var l []api.Refusal
	for i, s := range p.Places {
		if s.Kind != api.PlSite {
			continue
		}
		for n := range s.Cap {
			r, e := refuse.Make(key(s.Num), p, f, i, n, 9, at(10, 20))
			if served := plan.Served(p, f, i); (n < served) != (e == api.ErrState) || n >= served && e != api.OK || e != api.OK && !reflect.DeepEqual(r, noRefusal) {
				t.Fatal("P41.2:", p, i, n, served, e)
			}
			if e == api.OK {
				l = append(l, r)
			}
		}
	}
	return l
}

func TestExamples(t *testing.T) {
	p := example()
	f, _ := plan.Make(p)
	r, e := refuse.Make(key(1), p, f, 0, 4, 9, at(10, 20))
	want := api.Refusal{Place: 0, N: 4, Window: 9, Sent: 4, Cut: f.Cut, At: at(10, 20), Serial: 3}
	want.Seal = seal.Make(key(1), api.TagRefusal, string(wire.Ints([]int{0, 4, 9, 4, 10, 20, 3})), string(wire.Ints(f.Cut)))
	if e != api.OK || !reflect.DeepEqual(r, want) {
		t.Error("P41.2:", r, e)
	}
	if bound, e := refuse.Bound(p, r.Cut); bound != 4 || e != api.OK {
		t.Error("P41.1:", bound, e)
	}
	if r, e := refuse.Make(key(1), p, f, 0, 3, 9, at(10, 20)); e != api.ErrState || !reflect.DeepEqual(r, noRefusal) {
		t.Error("P41.2: a request that is served:", r, e)
	}
	if _, e := refuse.Make(key(2), p, f, 1, 0, 9, at(10, 20)); e != api.OK {
		t.Error("P41.2: the place 1:", e)
	}
	l := all(t, p, f)
	if i, e := refuse.All(p, l); len(l) != 4 || i != -1 || e != api.OK {
		t.Error("P41.5:", i, e)
	}
	if places, roads := refuse.Full(p, r.Cut); !reflect.DeepEqual(places, []int{3}) || len(roads) != 0 {
		t.Error("P41.6:", places, roads)
	}
	for i := range r.Cut {
		less := r
		less.Cut = slices.Delete(slices.Clone(r.Cut), i, i+1)
		if e := refuse.Check(p, less); e != api.ErrProof {
			t.Error("P41.3: one node less:", i, e)
		}
	}
	before := slices.Clone(f.Cut)
	r.Cut[0] = 99
	if !slices.Equal(f.Cut, before) {
		t.Error("P41.2: the result shares memory with the plan")
	}
}

func TestBound(t *testing.T) {
	p := example()
	for i, x := range []struct {
		cut   []int
		bound int
		e     api.Errno
	}{
		{[]int{0}, 8, 0}, {[]int{0, 2}, 8, 0}, {[]int{0, 2, 3}, 12, 0}, {[]int{0, 2, 4}, 8, 0}, {[]int{0, 2, 3, 4, 5, 6, 7}, 10, 0}, {[]int{0, 9}, 12, 0}, {[]int{0, 2, 3, 4, 5, 6, 7, 8, 9}, 4, 0},
		{nil, 0, api.ErrProof}, {[]int{2}, 0, api.ErrProof}, {[]int{0, 1}, 0, api.ErrProof}, {[]int{0, 10}, 0, api.ErrProof}, {[]int{-1, 0}, 0, api.ErrProof}, {[]int{0, 3, 2}, 0, api.ErrProof}, {[]int{0, 2, 2}, 0, api.ErrProof}, {[]int{0, 0}, 0, api.ErrProof}, {[]int{0, math.MaxInt}, 0, api.ErrProof}, {[]int{0, math.MinInt}, 0, api.ErrProof},
	} {
		bound, e := refuse.Bound(p, x.cut)
		if bound != x.bound || e != x.e {
			t.Error("P41.1:", i, bound, e)
		}
		if places, roads := refuse.Full(p, x.cut); e != api.OK && (places != nil || roads != nil) {
			t.Error("P41.6: no cut:", i, places, roads)
		}
	}
	if places, roads := refuse.Full(p, []int{0, 2, 4, 5, 6, 7}); !reflect.DeepEqual(places, []int{0}) || !reflect.DeepEqual(roads, []int{2, 3}) {
		t.Error("P41.6:", places, roads)
	}
	if places, roads := refuse.Full(p, []int{0, 3, 9}); !reflect.DeepEqual(places, []int{0, 1, 3}) || !reflect.DeepEqual(roads, []int{0}) {
		t.Error("P41.6: each once:", places, roads)
	}
}

func TestMake(t *testing.T) {
	p := example()
	f, _ := plan.Make(p)
	bad := f
	bad.Sent++
	long := key(1)
	long.Secret = ""
	for i, x := range []struct {
		k           api.Key
		f           api.Freight
		place, n, w int
		at          api.Period
		e           api.Errno
	}{
		{k: key(1), f: f, place: 0, n: 4, w: 0, at: at(0, api.MaxTime)}, {k: key(1), f: f, place: 0, n: 4, w: api.MaxWindows, at: at(0, 0)},
		{k: key(1), f: f, place: 2, n: 4, w: 9, at: at(1, 2), e: api.ErrArg}, {k: key(1), f: f, place: -1, n: 4, w: 9, at: at(1, 2), e: api.ErrArg}, {k: key(1), f: f, place: 4, n: 4, w: 9, at: at(1, 2), e: api.ErrArg},
		{k: long, f: f, place: 0, n: 4, w: 9, at: at(1, 2), e: api.ErrArg}, {k: key(2), f: f, place: 0, n: 4, w: 9, at: at(1, 2), e: api.ErrArg}, {k: key(1), f: f, place: 0, n: 4, w: 9, at: at(2, 1), e: api.ErrArg}, {k: key(1), f: f, place: 0, n: 4, w: 9, at: at(-1, 1), e: api.ErrArg},
		{k: key(1), f: f, place: 0, n: 4, w: -1, at: at(1, 2), e: api.ErrArg}, {k: key(1), f: f, place: 0, n: 4, w: api.MaxWindows + 1, at: at(1, 2), e: api.ErrArg},
		{k: key(1), f: f, place: 0, n: -1, w: 9, at: at(1, 2), e: api.ErrArg}, {k: key(1), f: f, place: 0, n: 5, w: 9, at: at(1, 2), e: api.ErrArg},
		{k: key(1), f: bad, place: 0, n: 5, w: 9, at: at(1, 2), e: api.ErrArg}, {k: key(1), f: bad, place: 0, n: 0, w: 9, at: at(1, 2), e: api.ErrProof}, {k: key(1), f: bad, place: 0, n: 4, w: 9, at: at(1, 2), e: api.ErrProof}, {k: key(1), place: 0, n: 4, w: 9, at: at(1, 2), e: api.ErrProof},
		{k: key(1), f: f, place: 0, n: 0, w: 9, at: at(1, 2), e: api.ErrState},
	} {
		r, e := refuse.Make(x.k, p, x.f, x.place, x.n, x.w, x.at)
		if e != x.e || e != api.OK && !reflect.DeepEqual(r, noRefusal) {
			t.Error("P41.2:", i, r, e)
		}
	}
}

func TestCheck(t *testing.T) {
	p := example()
	f, _ := plan.Make(p)
	good, _ := refuse.Make(key(2), p, f, 1, 2, 9, at(10, 20))
	ring := []api.Key{key(1), key(2)}
	for i, x := range []struct {
		change func(r *api.Refusal)
		why    api.Errno // of Check
		whose  api.Errno // of CheckSeal
	}{
		{func(r *api.Refusal) {}, 0, 0},
		{func(r *api.Refusal) { r.Place = 3 }, api.ErrName, api.ErrName}, {func(r *api.Refusal) { r.Place = -1 }, api.ErrName, api.ErrName}, {func(r *api.Refusal) { r.Place = 4; r.N = -1 }, api.ErrName, api.ErrName},
		{func(r *api.Refusal) { r.Place = 0 }, 0, api.ErrSeal},
		{func(r *api.Refusal) { r.N = 3 }, api.ErrArg, api.ErrSeal}, {func(r *api.Refusal) { r.N = -1; r.Cut = nil }, api.ErrArg, api.ErrSeal}, {func(r *api.Refusal) { r.N = 1 }, 0, api.ErrSeal},
		{func(r *api.Refusal) { r.Window = -1 }, api.ErrArg, api.ErrSeal}, {func(r *api.Refusal) { r.Window = api.MaxWindows + 1 }, api.ErrArg, api.ErrSeal}, {func(r *api.Refusal) { r.Window = api.MaxWindows }, 0, api.ErrSeal},
		{func(r *api.Refusal) { r.Sent = 3 }, api.ErrProof, api.ErrSeal}, {func(r *api.Refusal) { r.Sent = 5 }, api.ErrProof, api.ErrSeal}, {func(r *api.Refusal) { r.Cut = nil }, api.ErrProof, api.ErrSeal},
		{func(r *api.Refusal) { r.Cut = append([]int{0}, r.Cut...) }, api.ErrProof, api.ErrSeal},
		{func(r *api.Refusal) { r.Cut, r.Sent = []int{0, 4}, 8 }, api.ErrProof, api.ErrSeal},
		{func(r *api.Refusal) { r.Cut, r.Sent = []int{0, 2, 3, 6, 7, 8, 9}, 7 }, api.ErrProof, api.ErrSeal},
		{func(r *api.Refusal) { r.Serial = 4 }, 0, api.ErrName}, {func(r *api.Refusal) { r.At.Hi = 1000 }, 0, api.ErrTime}, {func(r *api.Refusal) { r.At.Lo = 4 }, 0, api.ErrTime}, {func(r *api.Refusal) { r.At = at(11, 10) }, 0, api.ErrTime}, {func(r *api.Refusal) { r.At.Lo = 11 }, 0, api.ErrSeal},
		{func(r *api.Refusal) { r.Seal[15]++ }, 0, api.ErrSeal},
	} {
		r := good
		r.Cut = slices.Clone(good.Cut)
		x.change(&r)
		if e := refuse.Check(p, r); e != x.why {
			t.Error("P41.3:", i, e)
		}
		if e := refuse.CheckSeal(ring, p, r); e != x.whose {
			t.Error("P41.4:", i, e)
		}
	}
	if e := refuse.CheckSeal(ring[:1], p, good); e != api.ErrName {
		t.Error("P41.4: another ring:", e)
	}
}

func TestAll(t *testing.T) {
	p := example()
	f, _ := plan.Make(p)
	l := all(t, p, f)
	change := func(i int, f func(r *api.Refusal)) []api.Refusal {
		c := slices.Clone(l)
		f(&c[i])
		return c
	}
	served := l[0]
	served.N = 0
	for i, x := range []struct {
		l     []api.Refusal
		place int
		e     api.Errno
	}{
		{nil, -1, 0}, {l[1:], -1, 0}, {l, -1, 0},
		{change(2, func(r *api.Refusal) { r.Place = 3 }), 2, api.ErrName}, {change(0, func(r *api.Refusal) { r.Cut = nil }), 0, api.ErrProof},
		{change(0, func(r *api.Refusal) { r.Window++ }), 1, api.ErrArg}, {change(3, func(r *api.Refusal) { r.Window++ }), 3, api.ErrArg},
		{change(3, func(r *api.Refusal) { r.Window, r.N = 8, l[2].N }), 3, api.ErrArg},
		{change(3, func(r *api.Refusal) { r.N = l[2].N }), 3, api.ErrTwice}, {append(slices.Clone(l), l[0]), 4, api.ErrTwice}, {append(slices.Clone(l), served), 4, api.ErrState},
	} {
		if place, e := refuse.All(p, x.l); place != x.place || e != x.e {
			t.Error("P41.5:", i, place, e)
		}
	}
	// Another cut of the same plant: 6 can pass the shield, and 1 goes by the other road.
	wide := l[0]
	wide.Cut, wide.Sent = []int{0, 2, 3, 4, 5, 6}, 7
	if e := refuse.Check(p, wide); e != api.OK {
		t.Error("P41.3: another cut:", e)
	}
	if place, e := refuse.All(p, []api.Refusal{wide, l[1]}); place != -1 || e != api.OK {
		t.Error("P41.5: other cuts:", place, e)
	}
	if place, e := refuse.All(p, []api.Refusal{l[1], wide}); place != 1 || e != api.ErrState {
		t.Error("P41.5: each with its own Sent:", place, e)
	}
}

func TestRandom(t *testing.T) {
	r := rand.New(rand.NewSource(41))
	refused := 0
	for range 500 {
		p := randomPlant(r)
		f, _ := plan.Make(p)
		l := all(t, p, f)
		if i, e := refuse.All(p, l); i != -1 || e != api.OK || len(l) != plan.Demand(p)-f.Sent {
			t.Fatal("P41.8:", p, i, e, len(l))
		}
		most, _, _ := flow.Most(plan.Net(p), 0, 1)
		value := flow.Value(plan.Net(p), 0, most)
		for range 20 {
			x := api.Refusal{Place: r.Intn(len(p.Places)), Window: 1, Cut: []int{0}}
			for node := 2; node < 2+2*len(p.Places); node++ {
				if r.Intn(3) > 0 {
					x.Cut = append(x.Cut, node)
				}
			}
			x.Sent, _ = refuse.Bound(p, x.Cut)
			if x.Sent != slowBound(p, x.Cut) || x.Sent < value {
				t.Fatal("P41.1:", p, x)
			}
			if refuse.Check(p, x) == api.OK {
				refused++
				if value > x.Sent || value >= plan.Demand(p) {
					t.Fatal("P41.7, P41.9:", p, x)
				}
			}
			checkFull(t, p, x.Cut)
		}
	}
	if refused < 100 {
		t.Error("few refusals:", refused)
	}
}

func slowBound(p api.Plant, cut []int) int {
	n := plan.Net(p)
	sides := make([]bool, n.Nodes)
	for _, node := range cut {
		sides[node] = true
	}
	return flow.CutValue(n, sides)
}

func checkFull(t *testing.T, p api.Plant, cut []int) {
	t.Helper()
	in := func(node int) bool { return slices.Contains(cut, node) }
	var places, roads []int
	for i, s := range p.Places {
		own := in(2+2*i) && !in(3+2*i)
		if own || s.Kind == api.PlSite && !in(2+2*i) || s.Kind == api.PlOrigin && in(3+2*i) {
			places = append(places, i)
		}
	}
	for i, r := range p.Roads {
		if in(3+2*r.From) && !in(2+2*r.To) {
			roads = append(roads, i)
		}
	}
	if a, b := refuse.Full(p, cut); !reflect.DeepEqual(a, places) || !reflect.DeepEqual(b, roads) {
		t.Fatal("P41.6:", p, cut, a, b, places, roads)
	}
}
