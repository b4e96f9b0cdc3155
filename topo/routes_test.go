package topo_test

import (
	"math"
	"math/rand"
	"reflect"
	"slices"
	"testing"

	"weirgate/api"
	"weirgate/topo"
)

func example() api.Map {
	return api.Map{
		Hubs:   []api.Hub{{Site: 1, Parent: -1, Up: true}, {Site: 2, Parent: 1, Up: true}, {Site: 3, Parent: 2, Up: true}},
		Routes: []api.Route{{Country: "", Sites: []int{1}}, {Country: "de", Sites: []int{3, 2}}},
	}
}

func turned(t *testing.T, m api.Map, sites ...int) api.Map {
	t.Helper()
	for _, site := range sites {
		next, e := topo.Turn(m, site, false)
		if e != api.OK {
			t.Fatal("P42.2: Turn:", site, e)
		}
		m = next
	}
	return m
}

func TestValidMap(t *testing.T) {
	full, wide := api.Map{}, api.Map{Hubs: []api.Hub{{Site: 0, Parent: -1}}}
	for i := range api.MaxSites {
		full.Hubs = append(full.Hubs, api.Hub{Site: i, Parent: i - 1})
	}
	for i := range 26 * 26 {
		wide.Routes = append(wide.Routes, api.Route{Country: string([]byte{byte('a' + i/26), byte('a' + i%26)})})
	}
	hub := func(l ...api.Hub) api.Map { return api.Map{Hubs: l} }
	route := func(l ...api.Route) api.Map { return api.Map{Hubs: example().Hubs, Routes: l} }
	for i, x := range []struct {
		m  api.Map
		ok bool
	}{
		{api.Map{}, true}, {example(), true}, {full, true}, {wide, true}, {hub(api.Hub{Site: 5, Parent: 7}, api.Hub{Site: 7, Parent: -1}), true},
		{hub(api.Hub{Site: -1, Parent: -1}), false}, {hub(api.Hub{Site: api.MaxSites, Parent: -1}), false}, {hub(api.Hub{Site: 2, Parent: -1}, api.Hub{Site: 2, Parent: -1}), false}, {hub(api.Hub{Site: 2, Parent: -1}, api.Hub{Site: 1, Parent: -1}), false},
		{hub(api.Hub{Site: 1, Parent: 1}), false}, {hub(api.Hub{Site: 1, Parent: 2}), false}, {hub(api.Hub{Site: 1, Parent: -2}), false}, {hub(api.Hub{Site: 1, Parent: math.MinInt}), false}, {hub(api.Hub{Site: 1, Parent: 2}, api.Hub{Site: 2, Parent: 1}), false},
		{route(api.Route{Country: "aa"}, api.Route{Country: "ab", Sites: []int{3, 1, 2}}), true}, {route(api.Route{Country: "aa"}, api.Route{Country: "aa"}), false}, {route(api.Route{Country: "ab"}, api.Route{Country: "aa"}), false}, {route(api.Route{Country: "aa"}, api.Route{}), false},
		{route(api.Route{Country: "a"}), false}, {route(api.Route{Country: "abc"}), false}, {route(api.Route{Country: "aB"}), false}, {route(api.Route{Country: "{a"}), false}, {route(api.Route{Country: "a`"}), false}, {route(api.Route{Country: "ü"}), false},
		{route(api.Route{Sites: []int{4}}), false}, {route(api.Route{Sites: []int{-1}}), false}, {route(api.Route{Sites: []int{1, 2, 1}}), false},
	} {
		if topo.ValidMap(x.m) != x.ok {
			t.Error("P42.1:", i)
		}
		if x.ok {
			continue
		}
		_, e1 := topo.Entry(x.m, "de")
		_, e2 := topo.Climb(x.m, 1)
		m, e3 := topo.Turn(x.m, 1, true)
		if e1 != api.ErrArg || e2 != api.ErrArg || e3 != api.ErrArg || !reflect.DeepEqual(m, api.Map{}) {
			t.Error("P42.1, P42.2: a map that is not valid:", i, e1, e2, e3)
		}
	}
	wide.Routes = slices.Repeat(wide.Routes, 2)
	if len(wide.Routes) <= api.MaxRoutes || topo.ValidMap(wide) {
		t.Error("P42.1: too many routes")
	}
}

func TestRoutes(t *testing.T) {
	m := example()
	for i, x := range []struct {
		off     []int
		country string
		site    int
		e       api.Errno
	}{
		{nil, "de", 3, 0}, {nil, "fr", 1, 0}, {nil, "", 1, 0}, {nil, "nothing", 1, 0}, {[]int{3}, "de", 2, 0}, {[]int{2, 3}, "de", 0, api.ErrName}, {[]int{1}, "fr", 0, api.ErrName}, {[]int{1}, "de", 3, 0},
	} {
		if site, e := topo.Entry(turned(t, m, x.off...), x.country); site != x.site || e != x.e {
			t.Error("P42.1: Entry:", i, site, e)
		}
	}
	m.Routes = m.Routes[1:]
	if _, e := topo.Entry(m, "fr"); e != api.ErrName {
		t.Error("P42.1: no route:", e)
	}
	for i, x := range []struct {
		off  []int
		site int
		way  []int
		e    api.Errno
	}{
		{nil, 3, []int{3, 2, 1}, 0}, {nil, 1, []int{1}, 0}, {[]int{2}, 3, []int{3, 1}, 0}, {[]int{3}, 3, []int{2, 1}, 0}, {[]int{1, 2, 3}, 3, nil, 0}, {nil, 0, nil, api.ErrName}, {nil, 4, nil, api.ErrName}, {nil, -1, nil, api.ErrName},
	} {
		if way, e := topo.Climb(turned(t, m, x.off...), x.site); !reflect.DeepEqual(way, x.way) || e != x.e {
			t.Error("P42.2: Climb:", i, way, e)
		}
	}
	for _, site := range []int{0, -1, 4, math.MaxInt} {
		if next, e := topo.Turn(m, site, true); e != api.ErrName || !reflect.DeepEqual(next, api.Map{}) {
			t.Error("P42.2: Turn:", site, e)
		}
	}
	off := turned(t, m, 3)
	on, e := topo.Turn(off, 3, true)
	if e != api.OK || !reflect.DeepEqual(on, m) || off.Hubs[2].Up || !m.Hubs[2].Up {
		t.Error("P42.2: Turn:", on, e)
	}
	on.Routes[0].Sites[0] = 77
	if off.Routes[0].Sites[0] != 3 {
		t.Error("P42.2: maps share memory")
	}
}

func TestMoved(t *testing.T) {
	m := example()
	countries := []string{"zz", "de", "", "fr", "de"}
	for i, x := range []struct {
		a, b api.Map
		want []string
	}{
		{m, m, nil}, {m, turned(t, m, 3), []string{"de", "de"}}, {m, turned(t, m, 1), []string{"zz", "", "fr"}}, {turned(t, m, 1), m, []string{"zz", "", "fr"}}, {m, turned(t, m, 2), nil},
		{m, api.Map{}, countries}, {api.Map{}, api.Map{Hubs: []api.Hub{{Site: -1}}}, nil}, {api.Map{Hubs: []api.Hub{{Site: -1}}}, turned(t, m, 2, 3), []string{"zz", "", "fr"}},
	} {
		if got := topo.Moved(x.a, x.b, countries); !reflect.DeepEqual(got, x.want) {
			t.Error("P42.2: Moved:", i, got)
		}
	}
}

func randomMap(r *rand.Rand) api.Map {
	var m api.Map
	for i := range 1 + r.Intn(7) {
		parent := -1
		if i > 0 && r.Intn(3) > 0 {
			parent = 3 * r.Intn(i)
		}
		m.Hubs = append(m.Hubs, api.Hub{Site: 3 * i, Parent: parent, Up: r.Intn(3) > 0})
	}
	for _, country := range []string{"", "de", "fr", "it"} {
		if r.Intn(4) > 0 {
			sites := r.Perm(len(m.Hubs))[:r.Intn(len(m.Hubs)+1)]
			for i := range sites {
				sites[i] *= 3
			}
			m.Routes = append(m.Routes, api.Route{Country: country, Sites: sites})
		}
	}
	return m
}

func TestTurnedOff(t *testing.T) {
	r := rand.New(rand.NewSource(42))
	countries := []string{"", "de", "fr", "it", "us"}
	for range 2000 {
		m := randomMap(r)
		site := 3 * r.Intn(len(m.Hubs))
		up := func(s int) bool { return m.Hubs[s/3].Up }
		way, _ := topo.Climb(m, site)
		for _, s := range way {
			if !up(s) {
				t.Fatal("P42.6: Climb:", m, site, way)
			}
		}
		if !up(site) {
			continue
		}
		off := turned(t, m, site)
		back, _ := topo.Turn(off, site, true)
		for _, country := range countries {
			before, e := topo.Entry(m, country)
			if e == api.OK && !up(before) {
				t.Fatal("P42.6: Entry:", m, country, before)
			}
			if len(topo.Moved(m, off, []string{country})) > 0 != (e == api.OK && before == site) {
				t.Fatal("P42.6: who moves:", m, site, country)
			}
		}
		if topo.Moved(m, back, countries) != nil {
			t.Fatal("P42.6: all move back:", m, site)
		}
	}
}
