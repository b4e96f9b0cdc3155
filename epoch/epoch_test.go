package epoch_test

import (
	"math"
	"math/rand"
	"reflect"
	"slices"
	"strings"
	"testing"

	"weirgate/address"
	"weirgate/api"
	"weirgate/epoch"
	"weirgate/hash"
	"weirgate/seal"
)

func key() api.Key {
	return api.Key{Party: api.Authority, Serial: 1, Secret: "s", From: 0, To: 10000}
}

func ring() []api.Key { return []api.Key{key()} }

func at(lo, hi int) api.Period { return api.Period{Lo: lo, Hi: hi} }

func purge(kind int, what string) api.Purge     { return api.Purge{Kind: kind, What: what} }
func softPurge(kind int, what string) api.Purge { return api.Purge{Kind: kind, What: what, Soft: true} }

// chain issues one epoch after the other.
func chain(t *testing.T, n int) []api.Epoch {
	t.Helper()
	var l []api.Epoch
	for i := range n {
		e, why := epoch.Issue(key(), l, at(10*i, 10*i+5), []api.Purge{purge(api.PuAddress, "acme/a")}, []api.Digest{{byte(i + 1)}})
		if why != api.OK {
			t.Fatal("Issue:", why)
		}
		if l, why = epoch.Append(ring(), l, e); why != api.OK {
			t.Fatal("Append:", why)
		}
	}
	return l
}

func TestValid(t *testing.T) {
	good := api.Epoch{Num: 1, At: at(0, api.MaxTime), Purges: []api.Purge{purge(api.PuAddress, "acme/a?x=1"), purge(api.PuPrefix, "acme"), softPurge(api.PuTag, "acme:news")}}
	if !epoch.Valid(good) || !epoch.Valid(api.Epoch{Num: api.MaxEpochs, Purges: slices.Repeat(good.Purges[:1], api.MaxPurges), Revoked: make([]api.Digest, api.MaxPurges)}) {
		t.Error("P31.1: valid epochs")
	}
	for i, change := range []func(e *api.Epoch){
		func(e *api.Epoch) { e.Num = 0 }, func(e *api.Epoch) { e.Num = -1 }, func(e *api.Epoch) { e.Num = api.MaxEpochs + 1 }, func(e *api.Epoch) { e.At = at(5, 4) }, func(e *api.Epoch) { e.At = at(-1, 4) }, func(e *api.Epoch) { e.At = at(1, api.MaxTime+1) }, func(e *api.Epoch) { e.Purges = slices.Repeat(e.Purges[:1], api.MaxPurges+1) }, func(e *api.Epoch) { e.Revoked = make([]api.Digest, api.MaxPurges+1) },
		func(e *api.Epoch) { e.Purges[0].Kind = 0 }, func(e *api.Epoch) { e.Purges[0].Kind = 4 }, func(e *api.Epoch) { e.Purges[0].What = "Acme" }, func(e *api.Epoch) { e.Purges[0].What = "" }, func(e *api.Epoch) { e.Purges[0].What = "acme/" }, func(e *api.Epoch) { e.Purges[1].What = "acme?x=1" }, func(e *api.Epoch) { e.Purges[1].What = "acme/.." }, func(e *api.Epoch) { e.Purges[1].What = "*" },
		func(e *api.Epoch) { e.Purges[2].What = "acme" }, func(e *api.Epoch) { e.Purges[2].What = "acme:" }, func(e *api.Epoch) { e.Purges[2].What = ":news" }, func(e *api.Epoch) { e.Purges[2].What = "acme:a:b" }, func(e *api.Epoch) { e.Purges[2].What = "acme:a,b" }, func(e *api.Epoch) { e.Purges[2].What = "a.b:c" }, func(e *api.Epoch) { e.Purges[2].What = "acme:B" },
	} {
		e := good
		e.Purges = slices.Clone(good.Purges)
		change(&e)
		if epoch.Valid(e) || epoch.Follows(nil, e) != api.ErrForm {
			t.Error("P31.1: an epoch that is not valid:", i)
		}
	}
	e := chain(t, 1)[0]
	if epoch.Name(e) != hash.Of(31, append(seal.EpochParts(e), string(e.Seal[:]))...) {
		t.Error("P31.1: Name")
	}
}

func TestFollows(t *testing.T) {
	l := chain(t, 3)
	next := api.Epoch{Num: 4, Prev: epoch.Name(l[2]), At: at(20, 25)}
	for i, x := range []struct {
		l      []api.Epoch
		change func(e *api.Epoch)
		e      api.Errno
	}{
		{l, func(e *api.Epoch) {}, 0}, {l, func(e *api.Epoch) { e.At = at(19, 25) }, 9}, {l, func(e *api.Epoch) { e.At = at(20, 24) }, 9}, {l, func(e *api.Epoch) { e.At = at(30, 40) }, 0}, {l, func(e *api.Epoch) { e.Num = 3 }, 310}, {l, func(e *api.Epoch) { e.Num = 5; e.At = at(1, 2) }, 310}, {l, func(e *api.Epoch) { e.Prev[3]++ }, 310}, {l, func(e *api.Epoch) { e.Prev = epoch.Name(l[1]) }, 310},
		{l, func(e *api.Epoch) { e.Num, e.At = 9, at(4, 3) }, 3}, {l[:2], func(e *api.Epoch) {}, 310}, {nil, func(e *api.Epoch) { e.Num, e.Prev, e.At = 1, api.Digest{}, at(0, 0) }, 0}, {nil, func(e *api.Epoch) { e.Num = 1 }, 310}, {nil, func(e *api.Epoch) { e.Prev = api.Digest{} }, 310},
	} {
		e := next
		x.change(&e)
		if why := epoch.Follows(x.l, e); why != x.e {
			t.Error("P31.1: Follows:", i, why)
		}
		sealed := seal.SealEpoch(key(), e)
		got, why := epoch.Append(ring(), x.l, sealed)
		if why != x.e || why != api.OK && got != nil || why == api.OK && !reflect.DeepEqual(got, append(slices.Clone(x.l), sealed)) {
			t.Error("P31.3: Append:", i, why)
		}
	}
	bad := seal.SealEpoch(key(), next)
	bad.Seal[0]++
	if got, why := epoch.Append(ring(), l, bad); why != api.ErrSeal || got != nil {
		t.Error("P31.3: a wrong seal:", why)
	}
	if _, why := epoch.Append(nil, l, seal.SealEpoch(key(), next)); why != api.ErrName {
		t.Error("P31.3: no key:", why)
	}
	bad.Num = 9
	if _, why := epoch.Append(ring(), l, bad); why != api.ErrChain {
		t.Error("P31.3: ErrChain comes first:", why)
	}
}

func TestIssue(t *testing.T) {
	l := chain(t, 2)
	purges, revoked := []api.Purge{purge(api.PuTag, "acme:x")}, []api.Digest{{9}}
	e, why := epoch.Issue(key(), l, at(50, 60), purges, revoked)
	want := seal.SealEpoch(key(), api.Epoch{Num: 3, Prev: epoch.Name(l[1]), At: at(50, 60), Purges: purges, Revoked: revoked})
	if why != api.OK || !reflect.DeepEqual(e, want) {
		t.Error("P31.2:", e, why)
	}
	e.Purges[0].What, e.Revoked[0][0] = "x", 1
	if purges[0].What != "acme:x" || revoked[0][0] != 9 {
		t.Error("P31.2: memory is shared")
	}
	for i, x := range []struct {
		at     api.Period
		purges []api.Purge
		e      api.Errno
	}{{at(5, 60), nil, 9}, {at(60, 50), nil, 3}, {at(5, 60), []api.Purge{{}}, 3}} {
		if e, why := epoch.Issue(key(), l, x.at, x.purges, nil); why != x.e || !reflect.DeepEqual(e, api.Epoch{}) {
			t.Error("P31.2:", i, why)
		}
	}
	got, _ := epoch.Append(ring(), l, want)
	got[0].Purges[0].What, got[2].Revoked[0][0] = "y", 77
	if l[0].Purges[0].What != "acme/a" || want.Revoked[0][0] == 77 {
		t.Error("P31.3: memory is shared")
	}
}

func TestCheck(t *testing.T) {
	l := chain(t, 6)
	if i, e := epoch.Check(ring(), l); i != -1 || e != api.OK {
		t.Error("P31.3, P31.7:", i, e)
	}
	if i, e := epoch.Check(ring(), nil); i != -1 || e != api.OK {
		t.Error("P31.3: no epochs:", i, e)
	}
	for n := range 5 {
		for i, change := range []func(e *api.Epoch){
			func(e *api.Epoch) { e.Purges = nil }, func(e *api.Epoch) { e.Revoked[0][3]++ }, func(e *api.Epoch) { e.At.Hi++ }, func(e *api.Epoch) { e.Purges[0].Soft = true }, func(e *api.Epoch) { e.Seal[2]++ }, func(e *api.Epoch) { e.Serial = 2 },
		} {
			other := slices.Clone(l)
			other[n].Purges, other[n].Revoked = slices.Clone(l[n].Purges), slices.Clone(l[n].Revoked)
			change(&other[n])
			if k, e := epoch.Check(ring(), other); k != n && k != n+1 || e == api.OK {
				t.Error("P31.8: a changed epoch:", n, i, k, e)
			}
			other[n] = seal.SealEpoch(key(), other[n])
			if epoch.Name(other[n]) == epoch.Name(l[n]) {
				continue
			}
			if k, e := epoch.Check(ring(), other); k != n+1 || e != api.ErrChain {
				t.Error("P31.8: an epoch that is sealed anew:", n, i, k, e)
			}
		}
	}
	if i, e := epoch.Check(ring(), l[1:]); i != 0 || e != api.ErrChain {
		t.Error("P31.3: a chain without its beginning:", i, e)
	}
	late := key()
	late.From = 15
	if i, e := epoch.Check([]api.Key{late}, l); i != 0 || e != api.ErrTime {
		t.Error("P31.3: a key that does not count:", i, e)
	}
}

func TestSince(t *testing.T) {
	l := chain(t, 4)
	for num := -1; num < 6; num++ {
		rest := epoch.Since(l, num)
		front := l[:max(0, min(num, 4))]
		if len(rest) != 4-len(front) || len(rest) > 0 && !reflect.DeepEqual(rest, l[len(front):]) {
			t.Error("P31.4:", num, len(rest))
		}
		all := front
		for _, e := range rest {
			var why api.Errno
			if all, why = epoch.Append(ring(), all, e); why != api.OK {
				t.Error("P31.10:", num, why)
			}
		}
		if !reflect.DeepEqual(all, l) {
			t.Error("P31.10:", num)
		}
	}
	if len(epoch.Since(l, math.MinInt)) != 4 || len(epoch.Since(l, math.MaxInt)) != 0 || len(epoch.Since(nil, 0)) != 0 {
		t.Error("P31.4: the ends")
	}
	epoch.Since(l, 0)[0].Purges[0].What = "z"
	if l[0].Purges[0].What != "acme/a" {
		t.Error("P31.4: memory is shared")
	}
}

func TestHits(t *testing.T) {
	for i, x := range []struct {
		p          api.Purge
		addr, tags string
		want       bool
	}{
		{purge(api.PuAddress, "acme/a"), "acme/a", "", true}, {purge(api.PuAddress, "acme/a"), "acme/a/b", "", false}, {purge(api.PuAddress, "acme/a"), "acme/a?x=1", "", false}, {purge(api.PuAddress, "acme/a?x=1"), "acme/a?x=1", "", true},
		{purge(api.PuPrefix, "acme/a"), "acme/a/b", "", true}, {purge(api.PuPrefix, "acme/a"), "acme/ab", "", false}, {purge(api.PuPrefix, "acme/a"), "acme/a?x=1", "", true}, {purge(api.PuPrefix, "acme/a"), "acme/a", "", true}, {purge(api.PuPrefix, "acme"), "acme?x=1", "", true}, {purge(api.PuPrefix, "acme/a/b"), "acme/a", "", false},
		{purge(api.PuTag, "acme:news"), "acme/x", "hot,news", true}, {purge(api.PuTag, "acme:news"), "bolt/x", "hot,news", false}, {purge(api.PuTag, "acme:news"), "acme?q=1", "news", true}, {purge(api.PuTag, "acme:news"), "acme", "news", true}, {purge(api.PuTag, "acme:news"), "acme/x", "hot", false}, {purge(api.PuTag, "acme:news"), "acme/x", "news,hot", false}, {purge(api.PuTag, "acme:news"), "acme2/x", "news", false}, {softPurge(api.PuTag, "acme:news"), "acme/x", "news", true},
	} {
		if epoch.Hits(x.p, x.addr, x.tags) != x.want {
			t.Error("P31.5: Hits:", i)
		}
	}
	s := api.Stamp{Addr: "acme/x", Tags: "hot,news", At: at(20, 30)}
	hard, soft := purge(api.PuTag, "acme:news"), softPurge(api.PuPrefix, "acme")
	for i, x := range []struct {
		e    api.Epoch
		lo   int
		want int
	}{
		{api.Epoch{At: at(10, 20), Purges: []api.Purge{hard}}, 20, api.CoRemoved}, {api.Epoch{At: at(10, 20), Purges: []api.Purge{hard}}, 21, api.CoFresh}, {api.Epoch{At: at(5, 6), Purges: []api.Purge{soft}}, 5, api.CoStale}, {api.Epoch{At: at(5, 6), Purges: []api.Purge{soft}}, 7, api.CoFresh}, {api.Epoch{At: at(50, 60)}, 20, api.CoFresh},
		{api.Epoch{At: at(50, 60), Purges: []api.Purge{soft, hard}}, 20, api.CoRemoved}, {api.Epoch{At: at(50, 60), Purges: []api.Purge{hard, soft}}, 20, api.CoRemoved}, {api.Epoch{At: at(50, 60), Purges: []api.Purge{soft, purge(api.PuAddress, "acme/y")}}, 20, api.CoStale},
	} {
		s.At.Lo = x.lo
		if n := epoch.Removes(x.e, s); n != x.want {
			t.Error("P31.5: Removes:", i, n)
		}
	}
}

func TestTables(t *testing.T) {
	r := rand.New(rand.NewSource(1))
	pick := func(l ...string) string { return l[r.Intn(len(l))] }
	var zero epoch.Table
	if zero.Last() != 0 || zero.State(api.Stamp{Addr: "acme"}) != api.CoFresh || zero.Revoked(api.Digest{}) || !reflect.DeepEqual(epoch.Fold(nil), zero) {
		t.Error("P31.6: the zero table")
	}
	for range 300 {
		var l []api.Epoch
		table := zero
		var tables []epoch.Table
		lo, hi := 0, 0
		for range r.Intn(6) {
			lo += r.Intn(8)
			hi = max(hi, lo) + r.Intn(8)
			var purges []api.Purge
			for range r.Intn(4) {
				kind := 1 + r.Intn(3)
				what := pick("acme", "acme/a", "acme/a/b", "bolt/a", "acme/ab")
				if kind == api.PuTag {
					what = pick("acme:x", "acme:y", "bolt:x")
				} else if kind == api.PuAddress {
					what = pick(what, "acme/a?q=1")
				}
				purges = append(purges, api.Purge{Kind: kind, What: what, Soft: r.Intn(2) == 0})
			}
			var revoked []api.Digest
			for range r.Intn(3) {
				revoked = append(revoked, api.Digest{byte(r.Intn(5))})
			}
			e, why := epoch.Issue(key(), l, at(lo, hi), purges, revoked)
			if why != api.OK {
				t.Fatal("Issue:", why)
			}
			l = append(l, e)
			tables = append(tables, table)
			table = table.Add(e)
		}
		fold := epoch.Fold(l)
		if fold.Last() != len(l) || table.Last() != len(l) || !reflect.DeepEqual(fold, table) {
			t.Fatal("P31.6, P31.9: Last, Fold:", l)
		}
		for range 60 {
			from := r.Intn(40)
			s := api.Stamp{Addr: pick("acme", "acme/a", "acme/a/b", "acme/a/b/c", "acme/a?q=1", "acme/ab", "bolt/a", "bolt"), Tags: pick("", "x", "x,y", "y", "w,x"), At: at(from, from+r.Intn(9))}
			want := api.CoFresh
			for i, e := range l {
				if n := tables[i].State(s); n != want {
					t.Fatal("P31.6: State of a table that was added to:", i, n, want)
				}
				want = max(want, epoch.Removes(e, s))
			}
			if fold.State(s) != want || table.State(s) != want {
				t.Fatal("P31.6: State:", l, s, want)
			}
			if len(l) > 0 && s.At.Lo > l[len(l)-1].At.Hi && want != api.CoFresh {
				t.Fatal("P31.9: a newer copy:", l, s)
			}
			for _, p := range []api.Purge{purge(api.PuPrefix, "acme/a"), purge(api.PuTag, "acme:x")} {
				hit := epoch.Hits(p, s.Addr, s.Tags)
				if p.Kind == api.PuPrefix && hit != address.Under("acme/a", s.Addr) || p.Kind == api.PuTag && hit != (strings.HasPrefix(s.Addr, "acme") && address.HasTag(s.Tags, "x")) {
					t.Fatal("P31.5: Hits:", p, s)
				}
			}
		}
		for i := range 6 {
			d := api.Digest{byte(i)}
			want := slices.ContainsFunc(l, func(e api.Epoch) bool { return slices.Contains(e.Revoked, d) })
			if fold.Revoked(d) != want || table.Revoked(d) != want {
				t.Fatal("P31.6: Revoked:", l, d)
			}
		}
	}
}
