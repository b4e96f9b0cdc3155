package account_test

import (
	"math"
	"math/rand"
	"reflect"
	"slices"
	"testing"

	"weirgate/account"
	"weirgate/api"
	"weirgate/epoch"
	"weirgate/lease"
	"weirgate/seal"
	"weirgate/wire"
)

func authority() api.Key {
	return api.Key{Party: api.Authority, Serial: 1, Secret: "authority", From: 0, To: api.MaxTime}
}

func siteKey(n int) api.Key {
	return api.Key{Party: api.SiteParty + n, Serial: 1, Secret: "site", From: 0, To: 5000}
}

func ring() []api.Key {
	l := []api.Key{authority()}
	for n := range 10 {
		l = append(l, siteKey(n))
	}
	return l
}

func at(lo, hi int) api.Period { return api.Period{Lo: lo, Hi: hi} }

func ints(l ...int) string { return string(wire.Ints(l)) }

// issue returns a chain of n epochs.
func issue(t *testing.T, n int) []api.Epoch {
	t.Helper()
	var l []api.Epoch
	for i := range n {
		e, why := epoch.Issue(authority(), l, at(10*i, 10*i+5), nil, nil)
		if why != api.OK {
			t.Fatal("Issue:", why)
		}
		l = append(l, e)
	}
	return l
}

func confirm(t *testing.T, site int, e api.Epoch, p api.Period) api.Confirm {
	t.Helper()
	c, why := account.Confirm(siteKey(site), site, e, p)
	if why != api.OK {
		t.Fatal("Confirm:", why)
	}
	return c
}

func leaseOf(site, epoch, until int) api.Lease {
	return seal.SealLease(authority(), api.Lease{Site: site, Epoch: epoch, Until: until})
}

func TestConfirm(t *testing.T) {
	e := issue(t, 2)[1]
	c := confirm(t, 3, e, at(50, 60))
	name := epoch.Name(e)
	want := api.Confirm{Site: 3, Epoch: 2, Name: name, At: at(50, 60), Serial: 1}
	want.Seal = seal.Make(siteKey(3), api.TagConfirm, ints(3, 2, 50, 60, 1), string(name[:]))
	if c != want || account.CheckConfirm(ring(), c) != api.OK {
		t.Error("P32.1:", c)
	}
	weak := siteKey(3)
	weak.Secret = ""
	for i, x := range []struct {
		k    api.Key
		site int
		e    api.Epoch
		at   api.Period
	}{
		{siteKey(-1), -1, e, at(1, 2)}, {siteKey(64), 64, e, at(1, 2)}, {weak, 3, e, at(1, 2)}, {siteKey(4), 3, e, at(1, 2)}, {authority(), 3, e, at(1, 2)}, {siteKey(3), 3, api.Epoch{}, at(1, 2)}, {siteKey(3), 3, e, at(2, 1)}, {siteKey(3), 3, e, at(2, api.MaxTime+1)}, {siteKey(3), math.MaxInt, e, at(1, 2)},
	} {
		if c, e := account.Confirm(x.k, x.site, x.e, x.at); e != api.ErrArg || c != (api.Confirm{}) {
			t.Error("P32.1:", i, e)
		}
	}
	for i, x := range []struct {
		change func(c *api.Confirm)
		e      api.Errno
	}{
		{func(c *api.Confirm) { c.Site = -1 }, 1}, {func(c *api.Confirm) { c.Site = 64 }, 1}, {func(c *api.Confirm) { c.Site = 50 }, 5}, {func(c *api.Confirm) { c.Serial = 2 }, 5}, {func(c *api.Confirm) { c.Site = 4 }, 8}, {func(c *api.Confirm) { c.Epoch = 3 }, 8}, {func(c *api.Confirm) { c.Name[0]++ }, 8}, {func(c *api.Confirm) { c.At.Lo-- }, 8}, {func(c *api.Confirm) { c.At.Hi = 6000 }, 9}, {func(c *api.Confirm) { c.Seal[9]++ }, 8},
	} {
		y := c
		x.change(&y)
		if e := account.CheckConfirm(ring(), y); e != x.e {
			t.Error("P32.2:", i, e)
		}
	}
}

// example are the grants, confirmations and leases of the chapter's example.
func example(t *testing.T) (api.Grants, api.Epoch, []api.Confirm, []api.Lease) {
	e := issue(t, 1)[0]
	g := api.Grants{Latest: 1, Most: 1000, L: []api.Grant{{Site: 3, Heard: 1, Until: 700}, {Site: 5, Until: 900}}}
	return g, e, []api.Confirm{confirm(t, 3, e, at(50, 60))}, []api.Lease{leaseOf(3, 0, 700), leaseOf(5, 0, 900)}
}

func TestExample(t *testing.T) {
	g, e, cs, ls := example(t)
	r, why := account.Make(authority(), g, e, cs, ls, at(800, 810))
	if why != api.OK || !slices.Equal(r.Lines, []api.Line{{Site: 3, Kind: api.LnConfirmed, Confirm: cs[0]}, {Site: 5, Kind: api.LnOpen, Lease: ls[1]}}) || account.Closed(r) {
		t.Error("P32.3:", r, why)
	}
	if i, why := account.Check(ring(), e, r); i != -1 || why != api.OK {
		t.Error("P32.4:", i, why)
	}
	r, why = account.Make(authority(), g, e, cs, ls, at(900, 910))
	if why != api.OK || r.Lines[1].Kind != api.LnExpired || !account.Closed(r) || r.Epoch != 1 || r.Name != epoch.Name(e) || r.At != at(900, 910) || r.Serial != 1 {
		t.Error("P32.3:", r, why)
	}
	if i, why := account.Check(ring(), e, r); i != -1 || why != api.OK {
		t.Error("P32.4:", i, why)
	}
	parts := []string{ints(1, 900, 910, 1, 2), string(r.Name[:])}
	for _, x := range r.Lines {
		parts = append(parts, ints(x.Site, x.Kind), ints(x.Confirm.Site, x.Confirm.Epoch, x.Confirm.At.Lo, x.Confirm.At.Hi, x.Confirm.Serial), string(x.Confirm.Name[:]), string(x.Confirm.Seal[:]), ints(x.Lease.Site, x.Lease.Epoch, x.Lease.Until, x.Lease.Serial), string(x.Lease.Seal[:]))
	}
	if r.Seal != seal.Make(authority(), api.TagReport, parts...) {
		t.Error("P32.3: the seal")
	}
	changed := r
	changed.Lines = slices.Clone(r.Lines)
	changed.Lines[1].Lease.Until = 901
	if i, why := account.Check(ring(), e, changed); i != -1 || why != api.ErrSeal {
		t.Error("P32.4:", i, why)
	}
	if !account.Refutes(ring(), e, r, leaseOf(5, 0, 1000)) {
		t.Error("P32.6: a lease that was left out")
	}
}

func TestMake(t *testing.T) {
	_, e, _, _ := example(t)
	l := issue(t, 3)
	e = l[1]
	g := api.Grants{Latest: 3, Most: 1000, L: []api.Grant{{Site: 0, Until: 100}, {Site: 2, Until: 101}, {Site: 4, Heard: 3}, {Site: 6, Until: 500}, {Site: 8, Until: 9}}}
	cs := []api.Confirm{{Site: 4, Epoch: 1}, {Site: 4, Epoch: 3, Serial: 1}, {Site: 4, Epoch: 2, Serial: 2}, {Site: 9, Epoch: 2}, {Site: 6, Epoch: 1}}
	ls := []api.Lease{{Site: 6, Until: 50, Serial: 1}, {Site: 6, Until: 60, Serial: 2}, {Site: 6, Until: 60, Serial: 3}, {Site: 4, Until: 999}, {Site: 8, Until: 200}, {Site: 7, Until: 9999}}
	r, why := account.Make(authority(), g, e, cs, ls, at(100, 300))
	want := []api.Line{{Site: 0, Kind: api.LnExpired}, {Site: 2, Kind: api.LnOpen}, {Site: 4, Kind: api.LnConfirmed, Confirm: cs[1]}, {Site: 6, Kind: api.LnExpired, Lease: ls[1]}, {Site: 8, Kind: api.LnOpen, Lease: ls[4]}}
	if why != api.OK || !slices.Equal(r.Lines, want) {
		t.Error("P32.3:", r.Lines, why)
	}
	if r, why := account.Make(authority(), api.Grants{Latest: 2, Most: 1}, e, cs, ls, at(0, 0)); why != api.OK || len(r.Lines) != 0 || !account.Closed(r) {
		t.Error("P32.3: no sites:", r, why)
	}
	weak := authority()
	weak.To = weak.From
	for i, x := range []struct {
		k   api.Key
		g   api.Grants
		e   api.Epoch
		now api.Period
	}{{weak, g, e, at(1, 2)}, {siteKey(1), g, e, at(1, 2)}, {authority(), api.Grants{}, e, at(1, 2)}, {authority(), g, api.Epoch{}, at(1, 2)}, {authority(), api.Grants{Latest: 1, Most: 5}, e, at(1, 2)}, {authority(), g, e, at(2, 1)}} {
		if r, why := account.Make(x.k, x.g, x.e, cs, ls, x.now); why != api.ErrArg || !reflect.DeepEqual(r, api.Report{}) {
			t.Error("P32.3:", i, why)
		}
	}
}

// reseal seals a report anew.
func reseal(r api.Report) api.Report {
	parts := []string{ints(r.Epoch, r.At.Lo, r.At.Hi, r.Serial, len(r.Lines)), string(r.Name[:])}
	for _, x := range r.Lines {
		parts = append(parts, ints(x.Site, x.Kind), ints(x.Confirm.Site, x.Confirm.Epoch, x.Confirm.At.Lo, x.Confirm.At.Hi, x.Confirm.Serial), string(x.Confirm.Name[:]), string(x.Confirm.Seal[:]), ints(x.Lease.Site, x.Lease.Epoch, x.Lease.Until, x.Lease.Serial), string(x.Lease.Seal[:]))
	}
	r.Seal = seal.Make(authority(), api.TagReport, parts...)
	return r
}

func TestCheck(t *testing.T) {
	l := issue(t, 3)
	e := l[1]
	now := at(1000, 1010)
	good := reseal(api.Report{Epoch: 2, Name: epoch.Name(e), At: now, Serial: 1, Lines: []api.Line{
		{Site: 0, Kind: api.LnConfirmed, Confirm: confirm(t, 0, e, at(5, 6))}, {Site: 1, Kind: api.LnConfirmed, Confirm: confirm(t, 1, l[2], at(5, 6))}, {Site: 2, Kind: api.LnExpired, Lease: leaseOf(2, 1, 1000)}, {Site: 3, Kind: api.LnOpen, Lease: leaseOf(3, 0, 1001)}, {Site: 4, Kind: api.LnExpired}, {Site: 5, Kind: api.LnOpen},
	}})
	if i, why := account.Check(ring(), e, good); i != -1 || why != api.OK {
		t.Fatal("P32.4: a right report:", i, why)
	}
	other := l[2]
	other.Num = 2
	for n, x := range []struct {
		change func(r *api.Report)
		i      int
		e      api.Errno
	}{
		{func(r *api.Report) { r.Lines[0].Site = -1 }, 0, 3}, {func(r *api.Report) { r.Lines[5].Site = 64 }, 5, 3}, {func(r *api.Report) { r.Lines[1].Site = 0 }, 1, 3}, {func(r *api.Report) { r.Lines[4].Site = 3 }, 4, 3}, {func(r *api.Report) { r.Lines[4].Kind = 0 }, 4, 3}, {func(r *api.Report) { r.Lines[4].Kind = 4 }, 4, 3}, {func(r *api.Report) { r.Lines[0], r.Lines[1] = r.Lines[1], r.Lines[0] }, 1, 3},
		{func(r *api.Report) { r.Lines[0].Lease = leaseOf(0, 0, 5) }, 0, 3}, {func(r *api.Report) { r.Lines[0].Confirm = confirm(t, 1, e, at(5, 6)) }, 0, 3}, {func(r *api.Report) { r.Lines[0].Confirm = confirm(t, 0, l[0], at(5, 6)) }, 0, 3}, {func(r *api.Report) { r.Lines[0].Confirm = confirm(t, 0, other, at(5, 6)) }, 0, 3}, {func(r *api.Report) { r.Lines[0].Confirm.Seal[1]++ }, 0, 8}, {func(r *api.Report) { r.Lines[1].Confirm.Epoch = 9 }, 1, 8},
		{func(r *api.Report) { r.Lines[1].Confirm.At.Hi = 7000 }, 1, 9}, {func(r *api.Report) { r.Lines[1].Confirm.Serial = 7 }, 1, 5}, {func(r *api.Report) { r.Lines[2].Confirm = confirm(t, 2, e, at(5, 6)) }, 2, 3}, {func(r *api.Report) { r.Lines[2].Lease = leaseOf(3, 1, 1000) }, 2, 3}, {func(r *api.Report) { r.Lines[2].Lease = leaseOf(2, 2, 1000) }, 2, 3}, {func(r *api.Report) { r.Lines[2].Lease.Seal[0]++ }, 2, 8}, {func(r *api.Report) { r.Lines[2].Lease.Serial = 7 }, 2, 5},
		{func(r *api.Report) { r.Lines[2].Lease = leaseOf(2, 1, 1001) }, 2, 9}, {func(r *api.Report) { r.Lines[3].Lease = leaseOf(3, 1, 1000) }, 3, 9}, {func(r *api.Report) { r.Lines[3].Kind = api.LnExpired }, 3, 9}, {func(r *api.Report) { r.Lines[2].Kind = api.LnOpen }, 2, 9}, {func(r *api.Report) { r.Lines[3].Lease.Until = 5000 }, 3, 8}, {func(r *api.Report) { r.Lines[0].Kind = api.LnExpired }, 0, 3}, {func(r *api.Report) { r.Lines[4].Kind = api.LnConfirmed }, 4, 3},
		{func(r *api.Report) { r.Lines[3].Site, r.Lines[0].Confirm.Seal[0] = 2, 0 }, 0, 8}, {func(r *api.Report) { r.Lines = nil }, -1, 0}, {func(r *api.Report) { r.Epoch = 3 }, -1, 1}, {func(r *api.Report) { r.Name[0]++ }, -1, 1}, {func(r *api.Report) { r.At = at(5, 4) }, -1, 1}, {func(r *api.Report) { r.Serial = 2 }, -1, 5}, {func(r *api.Report) { r.At.Hi = api.MaxTime }, -1, 9},
	} {
		r := good
		r.Lines = slices.Clone(good.Lines)
		x.change(&r)
		if i, why := account.Check(ring(), e, reseal(r)); i != x.i || why != x.e {
			t.Error("P32.4:", n, i, why)
		}
		if i, why := account.Check(ring(), e, r); i != -1 || why == api.OK {
			t.Error("P32.9: a change is not found:", n, i, why)
		}
	}
}

func TestRefutes(t *testing.T) {
	g, e, cs, ls := example(t)
	r, _ := account.Make(authority(), g, e, cs, ls, at(900, 910))
	open, _ := account.Make(authority(), g, e, cs, ls, at(800, 810))
	bad := leaseOf(5, 0, 1000)
	bad.Seal[0]++
	for i, x := range []struct {
		r  api.Report
		l  api.Lease
		ok bool
	}{
		{r, leaseOf(5, 0, 911), true}, {r, leaseOf(5, 0, 910), false}, {r, leaseOf(5, 1, 1000), false}, {r, leaseOf(3, 0, 1000), false}, {r, leaseOf(4, 0, 1000), true}, {r, bad, false}, {open, leaseOf(5, 0, 1000), false}, {r, api.Lease{}, false},
	} {
		if account.Refutes(ring(), e, x.r, x.l) != x.ok {
			t.Error("P32.6:", i)
		}
	}
	twice := r
	twice.Lines = append(slices.Clone(open.Lines), r.Lines...)
	if account.Refutes(ring(), e, twice, leaseOf(5, 0, 1000)) {
		t.Error("P32.6: the first line of a site counts")
	}
}

// An authority that tells the truth is never refuted, and its reports are right.
func TestPlays(t *testing.T) {
	closed := 0
	for seed := range 150 {
		r := rand.New(rand.NewSource(int64(seed)))
		g, _ := lease.New(300)
		var chain []api.Epoch
		var confirms []api.Confirm
		var leases []api.Lease
		sites := []api.Held{{Site: 0}, {Site: 2}, {Site: 9}}
		now := 0
		for range 60 {
			now += r.Intn(40)
			period := at(max(0, now-5), now+5)
			s := &sites[r.Intn(3)]
			switch r.Intn(4) {
			case 0:
				if e, why := epoch.Issue(authority(), chain, period, nil, nil); why == api.OK {
					chain = append(chain, e)
					g, _ = lease.Issue(g)
				}
			case 1:
				*s, _ = lease.Hear(*s, len(chain))
			case 2:
				if s.Heard > 0 {
					c := confirm(t, s.Site, chain[s.Heard-1], period)
					g, _ = lease.Confirm(g, s.Site, s.Heard)
					confirms = append(confirms, c)
				}
			default:
				if h, l, why := lease.Grant(g, authority(), s.Site, period, 1+r.Intn(300)); why == api.OK {
					g = h
					leases = append(leases, l)
					if r.Intn(2) == 0 {
						*s, _ = lease.Take(ring(), *s, l)
					}
				}
			}
			for _, e := range chain {
				before := slices.DeleteFunc(slices.Clone(leases), func(l api.Lease) bool { return l.Epoch >= e.Num })
				report, why := account.Make(authority(), g, e, confirms, before, period)
				if why != api.OK {
					t.Fatal("P32.3:", why)
				}
				if i, why := account.Check(ring(), e, report); i != -1 || why != api.OK {
					t.Fatal("P32.7:", seed, i, why)
				}
				waiting, _ := lease.Waiting(g, e.Num, period)
				if account.Closed(report) != (len(waiting) == 0) {
					t.Fatal("P32.5: closed:", seed, report, waiting)
				}
				if account.Closed(report) {
					closed++
				}
				for _, s := range sites {
					kind := 0
					for _, x := range report.Lines {
						if x.Site == s.Site {
							kind = x.Kind
						}
					}
					if kind == api.LnConfirmed || kind == api.LnOpen {
						continue
					}
					if s.Lease.Epoch < e.Num && lease.MayServe(s, at(period.Hi, period.Hi+3)) && s.Lease.Until > 0 && !account.Refutes(ring(), e, report, s.Lease) {
						t.Fatal("P32.8:", seed, report, s)
					}
				}
				for _, l := range before {
					if account.Refutes(ring(), e, report, l) && g.L != nil {
						t.Fatal("P32.6: a right report is refuted:", seed, report, l)
					}
				}
			}
		}
	}
	if closed == 0 {
		t.Error("no report was closed")
	}
}

func TestMissingLines(t *testing.T) {
	g, e, cs, ls := example(t)
	r, _ := account.Make(authority(), g, e, cs, ls, at(900, 910))
	for n := range r.Lines {
		x := r
		x.Lines = slices.Delete(slices.Clone(r.Lines), n, n+1)
		if i, why := account.Check(ring(), e, x); i != -1 || why != api.ErrSeal {
			t.Error("P32.9: a line is missing:", n, i, why)
		}
	}
}
