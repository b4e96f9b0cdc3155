package topo_test

import (
	"math"
	"math/rand"
	"reflect"
	"slices"
	"testing"

	"weirgate/api"
	"weirgate/topo"
)

// must returns the fleet of a call that gives no error.
func must(t *testing.T) func(f api.Fleet, e api.Errno) api.Fleet {
	return func(f api.Fleet, e api.Errno) api.Fleet {
		t.Helper()
		if e != api.OK || !topo.ValidFleet(f) {
			t.Fatal("a fleet:", f, e)
		}
		return f
	}
}

func TestFleetExamples(t *testing.T) {
	must := must(t)
	f := must(topo.NewFleet([]int{1, 2, 3}, 7))
	if want := (api.Fleet{Base: 7, Orders: []api.Order{{Site: 1, Version: 7}, {Site: 2, Version: 7}, {Site: 3, Version: 7}}}); !reflect.DeepEqual(f, want) {
		t.Error("P42.3: NewFleet:", f)
	}
	f = must(topo.Begin(f, [][]int{{3}, {1, 2}}))
	f = must(topo.Forward(f))
	if want := (api.Fleet{Base: 7, Done: 1, Serial: 1, Stages: [][]int{{3}, {1, 2}}, Orders: []api.Order{{Site: 1, Version: 7}, {Site: 2, Version: 7}, {Site: 3, Version: 8, Serial: 1}}}); !reflect.DeepEqual(f, want) {
		t.Error("P42.4: Forward:", f)
	}
	if g, e := topo.Forward(f); e != api.ErrState || !reflect.DeepEqual(g, api.Fleet{}) {
		t.Error("P42.4: a fleet that is not settled:", e)
	}
	f = must(topo.Forward(must(topo.Confirm(f, 3, 1))))
	if want := []api.Order{{Site: 1, Version: 8, Serial: 2}, {Site: 2, Version: 8, Serial: 2}, {Site: 3, Version: 8, Serial: 1, Heard: 1}}; !reflect.DeepEqual(f.Orders, want) || f.Done != 2 {
		t.Error("P42.4: Forward:", f)
	}
	back := must(topo.Retreat(f))
	if want := []api.Order{{Site: 1, Version: 7, Serial: 3}, {Site: 2, Version: 7, Serial: 3}, {Site: 3, Version: 8, Serial: 1, Heard: 1}}; !reflect.DeepEqual(back.Orders, want) || back.Done != 1 || back.Serial != 3 {
		t.Error("P42.4: Retreat:", back)
	}
	if n, e := topo.OrderOf(back, 3); e != api.OK || n != (api.Node{Site: 3, Version: 8, Serial: 1}) {
		t.Error("P42.5: OrderOf:", n, e)
	}
	f = must(topo.Confirm(must(topo.Confirm(f, 1, 2)), 2, 2))
	end := must(topo.End(f))
	if want := (api.Fleet{Base: 8, Serial: 2, Orders: []api.Order{{Site: 1, Version: 8, Serial: 2, Heard: 2}, {Site: 2, Version: 8, Serial: 2, Heard: 2}, {Site: 3, Version: 8, Serial: 1, Heard: 1}}}); !reflect.DeepEqual(end, want) {
		t.Error("P42.4: End:", end)
	}
}

// rolling returns a fleet in the middle of a rollout: the first of two stages is done and settled.
func rolling() api.Fleet {
	return api.Fleet{Base: 7, Done: 1, Serial: 5, Stages: [][]int{{3}, {1, 2}}, Orders: []api.Order{{Site: 1, Version: 7, Serial: 2, Heard: 2}, {Site: 2, Version: 7, Serial: 2, Heard: 2}, {Site: 3, Version: 8, Serial: 5, Heard: 5}}}
}

func with(f func(f *api.Fleet)) api.Fleet {
	g := rolling()
	f(&g)
	return g
}

func TestValidFleet(t *testing.T) {
	for i, f := range []api.Fleet{
		{}, rolling(), {Base: api.MaxSoftware - 1, Serial: 1 << 40, Stopped: true}, with(func(f *api.Fleet) { f.Serial = 1 << 40 }), with(func(f *api.Fleet) { f.Orders[0].Heard = 0 }), with(func(f *api.Fleet) { f.Stages = append([][]int{{}}, f.Stages...); f.Done = 2 }),
		{Stages: [][]int{nil}, Done: 1}, {Orders: []api.Order{{Site: 0}, {Site: api.MaxSites - 1}}},
	} {
		if !topo.ValidFleet(f) {
			t.Error("P42.3: a valid fleet:", i)
		}
	}
	bad := []api.Fleet{
		{Base: -1}, {Base: api.MaxSoftware}, {Serial: -1}, {Serial: 1<<40 + 1}, {Done: 1}, {Done: -1}, {Orders: []api.Order{{Site: -1}}}, {Orders: []api.Order{{Site: api.MaxSites}}}, {Orders: []api.Order{{Version: 1}}}, {Stages: [][]int{{0}}},
	}
	for _, change := range []func(f *api.Fleet){
		func(f *api.Fleet) { f.Orders[1].Site = 1 }, func(f *api.Fleet) { f.Orders[0], f.Orders[1] = f.Orders[1], f.Orders[0] }, func(f *api.Fleet) { f.Orders[2].Serial = 6 }, func(f *api.Fleet) { f.Orders[2].Heard = 6 }, func(f *api.Fleet) { f.Orders[0].Serial = -1 }, func(f *api.Fleet) { f.Orders[0].Heard = -1 },
		func(f *api.Fleet) { f.Done = 0 }, func(f *api.Fleet) { f.Done = 2 }, func(f *api.Fleet) { f.Done = 3 }, func(f *api.Fleet) { f.Done = -1 }, func(f *api.Fleet) { f.Orders[2].Version = 7 }, func(f *api.Fleet) { f.Orders[0].Version = 6 }, func(f *api.Fleet) { f.Base = 8 },
		func(f *api.Fleet) { f.Stages[1] = []int{1} }, func(f *api.Fleet) { f.Stages[1] = []int{1, 2, 4} }, func(f *api.Fleet) { f.Stages[1] = []int{1, 2, 3} }, func(f *api.Fleet) { f.Stages[1] = []int{1, 4} }, func(f *api.Fleet) { f.Stages = nil },
	} {
		bad = append(bad, with(change))
	}
	for i, f := range bad {
		a, e1 := topo.Begin(f, [][]int{{1}})
		b, e2 := topo.Forward(f)
		c, e3 := topo.Retreat(f)
		d, e4 := topo.Stop(f, true)
		e, e5 := topo.End(f)
		g, e6 := topo.Confirm(f, 77, 0)
		n, e7 := topo.OrderOf(f, 77)
		if topo.ValidFleet(f) || topo.Settled(f) || e1 != 1 || e2 != 1 || e3 != 1 || e4 != 1 || e5 != 1 || e6 != 1 || e7 != 1 || n != (api.Node{}) {
			t.Error("P42.3: a fleet that is not valid:", i, e1, e2, e3, e4, e5, e6, e7)
		}
		for _, x := range []api.Fleet{a, b, c, d, e, g} {
			if !reflect.DeepEqual(x, api.Fleet{}) {
				t.Error("P42.3: a result with an error:", i, x)
			}
		}
	}
	for i, x := range []struct {
		sites   []int
		version int
		e       api.Errno
	}{{nil, 0, 0}, {[]int{0, 63}, api.MaxSoftware - 1, 0}, {[]int{1, 1}, 0, 1}, {[]int{2, 1}, 0, 1}, {[]int{-1}, 0, 1}, {[]int{64}, 0, 1}, {nil, -1, 1}, {nil, api.MaxSoftware, 1}} {
		if f, e := topo.NewFleet(x.sites, x.version); e != x.e || topo.Settled(f) != true {
			t.Error("P42.3: NewFleet:", i, f, e)
		}
	}
}

func TestChanges(t *testing.T) {
	begin := func(stages ...[]int) func(f api.Fleet) (api.Fleet, api.Errno) {
		return func(f api.Fleet) (api.Fleet, api.Errno) { return topo.Begin(f, stages) }
	}
	confirm := func(site, serial int) func(f api.Fleet) (api.Fleet, api.Errno) {
		return func(f api.Fleet) (api.Fleet, api.Errno) { return topo.Confirm(f, site, serial) }
	}
	idle := with(func(f *api.Fleet) { f.Stages, f.Done, f.Orders[2].Version = nil, 0, 7 })
	last := idle
	last.Base, last.Orders = api.MaxSoftware-1, []api.Order{{Site: 1, Version: api.MaxSoftware - 1}}
	unsettled := func(f *api.Fleet) { f.Orders[0].Heard = 1 }
	open := idle
	open.Orders = slices.Clone(idle.Orders)
	open.Orders[0].Heard = 1
	none := with(func(f *api.Fleet) { f.Done, f.Orders[2].Version = 0, 7 })
	done := with(func(f *api.Fleet) { f.Done, f.Orders[0].Version, f.Orders[1].Version = 2, 8, 8 })
	for i, x := range []struct {
		f api.Fleet
		c func(f api.Fleet) (api.Fleet, api.Errno)
		e api.Errno
	}{
		{idle, begin([]int{2}, nil, []int{1, 3}), 0}, {idle, begin([]int{3, 2, 1}), 0}, {rolling(), begin([]int{1, 2, 3}), api.ErrState}, {open, begin([]int{1, 2, 3}), api.ErrState}, {open, begin(), api.ErrState},
		{idle, begin(), api.ErrArg}, {idle, begin([]int{1, 2}), api.ErrArg}, {idle, begin([]int{1, 2, 3}, []int{4}), api.ErrArg}, {idle, begin([]int{1, 2, 3}, []int{3}), api.ErrArg}, {idle, begin([]int{1, 2, 4}), api.ErrArg}, {last, begin([]int{2}), api.ErrArg}, {last, begin([]int{1}), api.ErrLimit},
		{rolling(), topo.Forward, 0}, {none, topo.Forward, 0}, {idle, topo.Forward, api.ErrState}, {done, topo.Forward, api.ErrState}, {with(func(f *api.Fleet) { f.Stopped = true }), topo.Forward, api.ErrState}, {with(unsettled), topo.Forward, api.ErrState}, {with(func(f *api.Fleet) { f.Serial = 1 << 40 }), topo.Forward, api.ErrLimit}, {with(func(f *api.Fleet) { f.Serial, f.Stopped = 1<<40, true }), topo.Forward, api.ErrState},
		{rolling(), topo.Retreat, 0}, {done, topo.Retreat, 0}, {with(unsettled), topo.Retreat, 0}, {with(func(f *api.Fleet) { f.Stopped = true }), topo.Retreat, 0}, {none, topo.Retreat, api.ErrState}, {idle, topo.Retreat, api.ErrState}, {with(func(f *api.Fleet) { f.Serial = 1 << 40 }), topo.Retreat, api.ErrLimit},
		{none, topo.End, 0}, {done, topo.End, 0}, {rolling(), topo.End, api.ErrState}, {idle, topo.End, api.ErrState}, {with(func(f *api.Fleet) { f.Done, f.Orders[2].Version, f.Orders[2].Heard = 0, 7, 4 }), topo.End, api.ErrState},
		{rolling(), confirm(3, 5), 0}, {rolling(), confirm(3, 0), 0}, {rolling(), confirm(4, 0), api.ErrName}, {rolling(), confirm(4, -1), api.ErrName}, {rolling(), confirm(3, -1), api.ErrArg}, {rolling(), confirm(3, 6), api.ErrArg}, {rolling(), confirm(1, 5), api.ErrArg}, {rolling(), confirm(3, math.MinInt), api.ErrArg},
	} {
		before := topo.ValidFleet(x.f)
		g, e := x.c(x.f)
		if e != x.e || !before || e == api.OK && !topo.ValidFleet(g) || e != api.OK && !reflect.DeepEqual(g, api.Fleet{}) {
			t.Error("P42.4, P42.5:", i, g, e)
		}
	}
	if f, e := topo.End(with(func(f *api.Fleet) { f.Done, f.Orders[2].Version, f.Stopped = 0, 7, true })); e != api.OK || f.Base != 7 || f.Stopped || f.Stages != nil || f.Serial != 5 {
		t.Error("P42.4: the end of a rollout that was taken back:", f, e)
	}
	if f, e := topo.Stop(idle, true); e != api.OK || !f.Stopped || topo.Settled(f) != true {
		t.Error("P42.4: Stop:", f, e)
	}
	if f, e := topo.Stop(with(func(f *api.Fleet) { f.Stopped = true }), false); e != api.OK || !reflect.DeepEqual(f, rolling()) {
		t.Error("P42.4: Stop:", f, e)
	}
	if topo.Settled(open) || topo.Settled(with(unsettled)) || !topo.Settled(rolling()) {
		t.Error("P42.3: Settled")
	}
	if f, _ := topo.Confirm(open, 1, 2); f.Orders[0].Heard != 2 {
		t.Error("P42.5: Confirm:", f)
	}
	if f, _ := topo.Confirm(open, 1, 0); f.Orders[0].Heard != 1 {
		t.Error("P42.5: what was heard already:", f)
	}
	if _, e := topo.OrderOf(idle, 4); e != api.ErrName {
		t.Error("P42.5: OrderOf:", e)
	}
}

func TestApply(t *testing.T) {
	n := api.Node{Site: 2, Version: 8, Serial: 5}
	for i, x := range []struct{ order, want api.Node }{
		{api.Node{Site: 2, Version: 7, Serial: 6}, api.Node{Site: 2, Version: 7, Serial: 6}}, {api.Node{Site: 2, Version: 7, Serial: 5}, n}, {api.Node{Site: 2, Version: 7, Serial: 4}, n}, {api.Node{Site: 3, Version: 7, Serial: 6}, n},
	} {
		if got := topo.Apply(n, x.order); got != x.want {
			t.Error("P42.5: Apply:", i, got)
		}
	}
}

func TestMemory(t *testing.T) {
	stages := [][]int{{3}, {1, 2}}
	f, _ := topo.NewFleet([]int{1, 2, 3}, 7)
	g, _ := topo.Begin(f, stages)
	h, _ := topo.Forward(g)
	stages[0][0], h.Stages[1][0], h.Orders[0].Version = 9, 9, 9
	if !topo.ValidFleet(f) || !topo.ValidFleet(g) || len(f.Stages) != 0 {
		t.Error("P42.5: fleets share memory")
	}
}

// TestNeighbours lets orders and what sites tell arrive late, several times, or never.
func TestNeighbours(t *testing.T) {
	r := rand.New(rand.NewSource(42))
	taken, ended := 0, 0
	for range 60 {
		sites := []int{2, 3, 5, 8, 13}
		f, _ := topo.NewFleet(sites, 3)
		nodes := map[int]api.Node{}
		for _, s := range sites {
			nodes[s] = api.Node{Site: s, Version: 3}
		}
		var orders, told []api.Node
		for range 2500 {
			if g, e := step(r, f); e == api.OK {
				f = g
			}
			if o, e := topo.OrderOf(f, sites[r.Intn(5)]); e == api.OK {
				orders = append(orders, o)
			}
			o := orders[len(orders)-1-r.Intn(min(len(orders), 1+r.Intn(30)))]
			nodes[o.Site] = topo.Apply(nodes[o.Site], o)
			told = append(told, nodes[o.Site])
			n := told[r.Intn(len(told))]
			if r.Intn(2) == 0 {
				n = nodes[o.Site]
			}
			g, e := topo.Confirm(f, n.Site, n.Serial)
			if e != api.OK {
				t.Fatal("P42.7: Confirm:", e)
			}
			f = g
			for _, n := range nodes {
				if n.Version != f.Base && n.Version != f.Base+1 {
					t.Fatal("P42.7:", f, nodes)
				}
				if topo.Settled(f) && f.Done == 0 && n.Version != f.Base || topo.Settled(f) && f.Done > 0 && f.Done == len(f.Stages) && n.Version != f.Base+1 {
					t.Fatal("P42.8:", f, nodes)
				}
			}
			if f.Done > 0 && f.Done == len(f.Stages) {
				taken++
			}
		}
		ended += f.Base - 3
	}
	if taken < 100 || ended < 100 {
		t.Error("few rollouts:", taken, ended)
	}
}

func step(r *rand.Rand, f api.Fleet) (api.Fleet, api.Errno) {
	switch r.Intn(8) {
	case 0:
		return topo.Begin(f, [][]int{{8}, {2, 13}, {3, 5}})
	case 1:
		if r.Intn(8) == 0 {
			return topo.Retreat(f)
		}
		return topo.Stop(f, r.Intn(2) == 0)
	case 2:
		return topo.End(f)
	case 3:
		return topo.Stop(f, false)
	}
	return topo.Forward(f)
}
