package lease_test

import (
	"math"
	"math/rand"
	"reflect"
	"slices"
	"testing"

	"weirgate/api"
	"weirgate/clock"
	"weirgate/lease"
	"weirgate/seal"
)

func key() api.Key {
	return api.Key{Party: api.Authority, Serial: 1, Secret: "s", From: 0, To: api.MaxTime}
}

func at(lo, hi int) api.Period { return api.Period{Lo: lo, Hi: hi} }

// bad are grants that are not valid.
func bad() []api.Grants {
	return []api.Grants{
		{Latest: -1, Most: 5}, {Latest: api.MaxEpochs + 1, Most: 5}, {Most: 0}, {Most: -1}, {Most: api.MaxLease + 1}, {Latest: 5, Most: 5, L: []api.Grant{{Site: -1}}}, {Latest: 5, Most: 5, L: []api.Grant{{Site: api.MaxSites}}}, {Latest: 5, Most: 5, L: []api.Grant{{Site: 2}, {Site: 2}}}, {Latest: 5, Most: 5, L: []api.Grant{{Site: 2}, {Site: 1}}},
		{Latest: 5, Most: 5, L: []api.Grant{{Site: 2, Heard: -1}}}, {Latest: 5, Most: 5, L: []api.Grant{{Site: 2, Heard: 6}}}, {Latest: 5, Most: 5, L: []api.Grant{{Site: 2, Until: -1}}}, {Latest: 5, Most: 5, L: []api.Grant{{Site: 2, Until: api.MaxTime + 1}}},
	}
}

func TestGrants(t *testing.T) {
	good := api.Grants{Latest: api.MaxEpochs, Most: api.MaxLease, L: []api.Grant{{Site: 0, Heard: api.MaxEpochs, Until: api.MaxTime}, {Site: api.MaxSites - 1}}}
	if !lease.Valid(good) || !lease.Valid(api.Grants{Most: 1}) {
		t.Error("P30.1: valid grants")
	}
	for i, g := range bad() {
		a, e1 := lease.Issue(g)
		b, e2 := lease.Confirm(g, 0, 0)
		c, l, e3 := lease.Grant(g, key(), 0, at(1, 2), 1)
		d, e4 := lease.Deadline(g, 1)
		w, e5 := lease.Waiting(g, 1, at(1, 2))
		if lease.Valid(g) || !reflect.DeepEqual(a, api.Grants{}) || !reflect.DeepEqual(b, a) || !reflect.DeepEqual(c, a) || l != (api.Lease{}) || d != 0 || w != nil || e1 != 1 || e2 != 1 || e3 != 1 || e4 != 1 || e5 != 1 {
			t.Error("P30.1: grants that are not valid:", i, e1, e2, e3, e4, e5)
		}
	}
	for _, n := range []int{1, 1000, api.MaxLease} {
		if g, e := lease.New(n); e != api.OK || !reflect.DeepEqual(g, api.Grants{Most: n}) {
			t.Error("P30.1: New:", n, g, e)
		}
	}
	for _, n := range []int{0, -1, api.MaxLease + 1, math.MinInt} {
		if g, e := lease.New(n); e != api.ErrArg || !reflect.DeepEqual(g, api.Grants{}) {
			t.Error("P30.1: New:", n, e)
		}
	}
	if g, e := lease.Issue(good); e != api.ErrLimit || !reflect.DeepEqual(g, api.Grants{}) {
		t.Error("P30.1: Issue:", e)
	}
	good.Latest--
	good.L[0].Heard--
	if g, e := lease.Issue(good); e != api.OK || g.Latest != api.MaxEpochs || !slices.Equal(g.L, good.L) {
		t.Error("P30.1: Issue:", g, e)
	}
}

func TestExample(t *testing.T) {
	g, _ := lease.New(1000)
	g, l, e := lease.Grant(g, key(), 1, at(100, 110), 1000)
	if e != api.OK || l != seal.SealLease(key(), api.Lease{Site: 1, Epoch: 0, Until: 1100}) || !slices.Equal(g.L, []api.Grant{{Site: 1, Until: 1100}}) {
		t.Error("P30.3:", g, l, e)
	}
	g, l, e = lease.Grant(g, key(), 2, at(100, 110), 500)
	if e != api.OK || l.Until != 600 || !slices.Equal(g.L, []api.Grant{{Site: 1, Until: 1100}, {Site: 2, Until: 600}}) {
		t.Error("P30.3:", g, l, e)
	}
	held := api.Held{Site: 2, Lease: l}
	g, _ = lease.Issue(g)
	if d, e := lease.Deadline(g, 1); d != 1100 || e != api.OK {
		t.Error("P30.4:", d, e)
	}
	if w, e := lease.Waiting(g, 1, at(700, 710)); !slices.Equal(w, []int{1}) || e != api.OK {
		t.Error("P30.4:", w, e)
	}
	for i, x := range []struct {
		lo   int
		want []int
	}{{0, []int{1, 2}}, {599, []int{1, 2}}, {600, []int{1}}, {1099, []int{1}}, {1100, nil}} {
		if w, e := lease.Waiting(g, 1, at(x.lo, 5000)); !slices.Equal(w, x.want) || e != api.OK {
			t.Error("P30.4: Waiting:", i, w, e)
		}
	}
	old := slices.Clone(g.L)
	c, e := lease.Confirm(g, 1, 1)
	if e != api.OK || !slices.Equal(g.L, old) || !slices.Equal(c.L, []api.Grant{{Site: 1, Heard: 1, Until: 1100}, {Site: 2, Until: 600}}) {
		t.Error("P30.2:", c, e)
	}
	if d, e := lease.Deadline(c, 1); d != 600 || e != api.OK {
		t.Error("P30.4:", d, e)
	}
	if h, l, e := lease.Grant(c, key(), 2, at(1, 2), 5); e != api.ErrState || l != (api.Lease{}) || !reflect.DeepEqual(h, api.Grants{}) {
		t.Error("P30.3: a site that has not heard:", e)
	}
	if !lease.MayServe(held, at(590, 599)) || lease.MayServe(held, at(595, 600)) {
		t.Error("P30.6")
	}
}

func TestConfirm(t *testing.T) {
	g := api.Grants{Latest: 7, Most: 9, L: []api.Grant{{Site: 3, Heard: 4, Until: 5}, {Site: 8}}}
	for i, x := range []struct {
		site, epoch int
		want        []api.Grant
		e           api.Errno
	}{
		{3, 5, []api.Grant{{Site: 3, Heard: 5, Until: 5}, {Site: 8}}, 0}, {3, 2, g.L, 0}, {3, 0, g.L, 0}, {5, 0, g.L, 0}, {5, 7, []api.Grant{{Site: 3, Heard: 4, Until: 5}, {Site: 5, Heard: 7}, {Site: 8}}, 0}, {0, 1, []api.Grant{{Site: 0, Heard: 1}, {Site: 3, Heard: 4, Until: 5}, {Site: 8}}, 0}, {63, 1, []api.Grant{{Site: 3, Heard: 4, Until: 5}, {Site: 8}, {Site: 63, Heard: 1}}, 0},
		{-1, 1, nil, 1}, {64, 1, nil, 1}, {3, -1, nil, 1}, {3, 8, nil, 1}, {math.MinInt, 1, nil, 1},
	} {
		c, e := lease.Confirm(g, x.site, x.epoch)
		if e != x.e || !slices.Equal(c.L, x.want) || e == api.OK && (c.Latest != 7 || c.Most != 9 || !lease.Valid(c)) {
			t.Error("P30.2:", i, c, e)
		}
	}
}

func TestGrant(t *testing.T) {
	g := api.Grants{Latest: 7, Most: 100, L: []api.Grant{{Site: 3, Heard: 7, Until: 50}, {Site: 8, Heard: 6}}}
	other, weak := key(), key()
	other.Party, weak.Secret = 2, ""
	for i, x := range []struct {
		k            api.Key
		site, length int
		now          api.Period
		until        int
		e            api.Errno
	}{
		{key(), 3, 100, at(10, 20), 110, 0}, {key(), 3, 1, at(10, 20), 50, 0}, {key(), 3, 100, at(api.MaxTime-100, api.MaxTime), api.MaxTime, 0}, {key(), 3, 100, at(api.MaxTime-99, api.MaxTime), 0, 2}, {key(), 8, 5, at(10, 20), 0, 4}, {key(), 5, 5, at(10, 20), 0, 4}, {key(), 8, 100, at(api.MaxTime-99, api.MaxTime), 0, 4},
		{key(), -1, 5, at(10, 20), 0, 1}, {key(), 64, 5, at(10, 20), 0, 1}, {key(), 8, 0, at(10, 20), 0, 1}, {key(), 8, 101, at(10, 20), 0, 1}, {key(), 8, -1, at(10, 20), 0, 1}, {key(), 8, 5, at(21, 20), 0, 1}, {key(), 8, 5, at(-1, 20), 0, 1}, {key(), 8, 5, at(1, api.MaxTime+1), 0, 1}, {other, 8, 5, at(10, 20), 0, 1}, {weak, 8, 5, at(10, 20), 0, 1},
		{key(), 8, math.MaxInt, at(10, 20), 0, 1},
	} {
		old := slices.Clone(g.L)
		h, l, e := lease.Grant(g, x.k, x.site, x.now, x.length)
		if e != x.e || e != api.OK && (l != (api.Lease{}) || !reflect.DeepEqual(h, api.Grants{})) || !slices.Equal(g.L, old) {
			t.Error("P30.3:", i, l, e)
		}
		if e == api.OK {
			want := seal.SealLease(key(), api.Lease{Site: 3, Epoch: 7, Until: x.now.Lo + x.length})
			if l != want || h.L[0].Until != x.until || h.L[0].Heard != 7 || !lease.Valid(h) {
				t.Error("P30.3:", i, h, l)
			}
		}
	}
	for _, epoch := range []int{0, -1, 8, math.MaxInt} {
		d, e := lease.Deadline(g, epoch)
		w, f := lease.Waiting(g, epoch, at(1, 2))
		if d != 0 || w != nil || e != api.ErrArg || f != api.ErrArg {
			t.Error("P30.4: no epoch:", epoch, e, f)
		}
	}
	if w, e := lease.Waiting(g, 1, at(2, 1)); w != nil || e != api.ErrArg {
		t.Error("P30.4: no period:", e)
	}
	if d, e := lease.Deadline(g, 6); d != 0 || e != api.OK {
		t.Error("P30.4: all have heard:", d, e)
	}
}

func TestHeld(t *testing.T) {
	ring := []api.Key{key()}
	l := seal.SealLease(key(), api.Lease{Site: 3, Epoch: 5, Until: 100})
	h := api.Held{Site: 3, Heard: 5}
	for i, x := range []struct {
		h    api.Held
		l    api.Lease
		want api.Held
		e    api.Errno
	}{
		{h, l, api.Held{Site: 3, Heard: 5, Lease: l}, 0}, {api.Held{Site: 3, Heard: 4}, l, api.Held{Site: 3, Heard: 4}, 4}, {api.Held{Site: 3, Heard: 9}, l, api.Held{Site: 3, Heard: 9, Lease: l}, 0}, {api.Held{Site: 4, Heard: 5}, l, api.Held{Site: 4, Heard: 5}, 1}, {api.Held{Site: 3, Heard: -1}, l, api.Held{Site: 3, Heard: -1}, 1},
		{api.Held{Site: 3, Heard: 5, Lease: api.Lease{Until: 100, Epoch: 1}}, l, api.Held{Site: 3, Heard: 5, Lease: api.Lease{Until: 100, Epoch: 1}}, 0}, {api.Held{Site: 3, Heard: 5, Lease: api.Lease{Until: 99}}, l, api.Held{Site: 3, Heard: 5, Lease: l}, 0}, {api.Held{Site: 3, Heard: 5, Lease: api.Lease{Until: api.MaxTime + 1}}, l, api.Held{Site: 3, Heard: 5, Lease: api.Lease{Until: api.MaxTime + 1}}, 1},
		{h, api.Lease{Site: 3, Epoch: 6, Until: 100, Serial: 1, Seal: l.Seal}, h, 8}, {h, api.Lease{Site: 3, Epoch: 5, Until: 100, Serial: 2, Seal: l.Seal}, h, 5}, {h, seal.SealLease(key(), api.Lease{Site: 3, Epoch: 5, Until: 0}), h, 9}, {api.Held{Site: -1}, api.Lease{Site: -1}, api.Held{Site: -1}, 1},
	} {
		if got, e := lease.Take(ring, x.h, x.l); got != x.want || e != x.e {
			t.Error("P30.5: Take:", i, got, e)
		}
	}
	for i, x := range []struct {
		h           api.Held
		epoch, want int
		e           api.Errno
	}{{h, 7, 7, 0}, {h, 3, 5, 0}, {h, api.MaxEpochs, api.MaxEpochs, 0}, {h, api.MaxEpochs + 1, 5, 1}, {h, -1, 5, 1}, {api.Held{Site: 64, Heard: 5}, 7, 5, 1}} {
		want := x.h
		want.Heard = x.want
		if got, e := lease.Hear(x.h, x.epoch); got != want || e != x.e {
			t.Error("P30.5: Hear:", i, got, e)
		}
	}
	h.Lease = l
	for i, x := range []struct {
		h   api.Held
		now api.Period
		ok  bool
	}{{h, at(0, 99), true}, {h, at(0, 100), false}, {h, at(99, 98), false}, {h, at(-1, 5), false}, {api.Held{Site: 3}, at(0, 0), false}, {api.Held{Site: 99, Lease: l}, at(0, 5), false}, {api.Held{Site: 3, Heard: api.MaxEpochs + 1, Lease: l}, at(0, 5), false}} {
		if lease.MayServe(x.h, x.now) != x.ok {
			t.Error("P30.6: MayServe:", i)
		}
	}
	c, _ := clock.New(10, at(50, 55), 1000)
	for i, x := range []struct {
		h     api.Held
		c     api.Clock
		local int
		want  int
		e     api.Errno
	}{
		{h, c, 10, clock.Worth(c, 10, 100), 0}, {h, c, 20, clock.Worth(c, 20, 100), 0}, {h, c, 9, 0, 1}, {h, c, 1<<41 + 1, 0, 1}, {h, c, 1 << 41, 0, 0}, {api.Held{Site: 3}, c, 10, 0, 0}, {api.Held{Site: -3}, c, 10, 0, 1}, {h, api.Clock{Drift: -1}, 10, 0, 1},
	} {
		if n, e := lease.Worth(x.h, x.c, x.local); n != x.want || e != x.e {
			t.Error("P30.6: Worth:", i, n, e)
		}
	}
	for local := 10; local < 80; local++ {
		n, _ := lease.Worth(h, c, local)
		for more := range 60 {
			p, _ := clock.Read(c, local+more)
			if lease.MayServe(h, p) != (more < n) {
				t.Fatal("P30.9:", local, more, n)
			}
		}
	}
}

// Sites hear late or never; leases arrive late or never: the deadline holds.
func TestDeadlines(t *testing.T) {
	ring := []api.Key{key()}
	for seed := range 200 {
		r := rand.New(rand.NewSource(int64(seed)))
		g, _ := lease.New(200)
		sites := []api.Held{{Site: 0}, {Site: 4}, {Site: 63}}
		var deadlines []int
		mail := make([][]api.Lease, len(sites))
		now := 0
		for range 120 {
			now += r.Intn(30)
			i := r.Intn(len(sites))
			s := &sites[i]
			switch r.Intn(6) {
			case 0:
				g, _ = lease.Issue(g)
				d, _ := lease.Deadline(g, g.Latest)
				deadlines = append(deadlines, d)
			case 1:
				*s, _ = lease.Hear(*s, s.Heard+r.Intn(g.Latest-s.Heard+1))
			case 2:
				g, _ = lease.Confirm(g, s.Site, r.Intn(s.Heard+1))
			case 3, 4:
				period := at(max(0, now-r.Intn(10)), now+r.Intn(10))
				h, l, e := lease.Grant(g, key(), s.Site, period, 1+r.Intn(200))
				if e == api.OK {
					if l.Until > now+200 {
						t.Fatal("P30.7:", l, now)
					}
					g = h
					mail[i] = append(mail[i], l)
				}
			default:
				if len(mail[i]) > 0 {
					*s, _ = lease.Take(ring, *s, mail[i][r.Intn(len(mail[i]))])
				}
			}
			for k, d := range deadlines {
				later, e := lease.Deadline(g, k+1)
				if e != api.OK || later > d {
					t.Fatal("P30.8: a deadline has grown:", seed, k, d, later)
				}
				for _, s := range sites {
					if s.Heard < k+1 && s.Lease.Until > d {
						t.Fatal("P30.8: a lease is longer than a deadline:", seed, s, k, d)
					}
					if s.Heard < k+1 && now >= d && lease.MayServe(s, at(max(0, now-5), now+5)) {
						t.Fatal("P30.8: a site may serve:", seed, s, k, d, now)
					}
				}
			}
		}
	}
}
