package verify_test

import (
	"math/rand"
	"reflect"
	"slices"
	"testing"

	"weirgate/api"
	"weirgate/chain"
	"weirgate/epoch"
	"weirgate/replylog"
	"weirgate/seal"
	"weirgate/verify"
)

func TestEpochs(t *testing.T) {
	x := chained(t, plain(rule()), []api.Period{at(1, 2), at(1, 3), at(5, 6)}, [][]api.Purge{nil, {{Kind: api.PuTag, What: "bolt:x"}}, nil})
	check(t, "P46.2: epochs:", x, api.Finding{})
	lacking := x
	lacking.Epochs = x.Epochs[:2]
	check(t, "P46.2: epochs are lacking:", lacking, api.Finding{Step: api.VsEpochs, E: api.ErrArg})
	for _, n := range []int{api.VsPurge, api.VsAge} {
		if e, p := verify.Step(lacking, n), verify.Party(lacking, n); e != api.ErrArg || p != 0 {
			t.Error("P46.2, P46.3: epochs are lacking:", n, e, p)
		}
	}
	resealed := func(change func(e *api.Epoch)) func(e *api.Epoch) {
		return func(e *api.Epoch) {
			change(e)
			*e = seal.SealEpoch(key(api.Authority, 1), *e)
		}
	}
	for i, c := range []struct {
		place  int
		change func(e *api.Epoch)
		party  int
		e      api.Errno
	}{
		{2, func(e *api.Epoch) { e.Seal[0]++ }, 0, api.ErrSeal}, {0, func(e *api.Epoch) { e.Seal[0]++ }, 0, api.ErrSeal}, {2, func(e *api.Epoch) { e.Serial = 9 }, 0, api.ErrName}, {2, func(e *api.Epoch) { e.Num = 4 }, 0, api.ErrChain}, {2, func(e *api.Epoch) { e.At = at(4, 3) }, 0, api.ErrForm},
		{2, resealed(func(e *api.Epoch) { e.Num = 4 }), 1, api.ErrChain}, {2, resealed(func(e *api.Epoch) { e.Prev[0]++ }), 1, api.ErrChain}, {0, resealed(func(e *api.Epoch) { e.Prev[0]++ }), 1, api.ErrChain}, {1, resealed(func(e *api.Epoch) { e.At = at(0, 7) }), 1, api.ErrTime}, {2, resealed(func(e *api.Epoch) { e.At = at(2, 2) }), 1, api.ErrTime}, {2, resealed(func(e *api.Epoch) { e.At.Hi = 1000 }), 0, api.ErrTime},
		{2, resealed(func(e *api.Epoch) { e.Purges = []api.Purge{{Kind: 4}} }), 1, api.ErrForm}, {2, resealed(func(e *api.Epoch) { e.Revoked = make([]api.Digest, api.MaxPurges+1) }), 1, api.ErrForm}, {1, resealed(func(e *api.Epoch) { e.Purges = nil }), 1, api.ErrChain},
	} {
		y := x
		y.Epochs = slices.Clone(x.Epochs)
		c.change(&y.Epochs[c.place])
		check(t, "P46.2: epochs:", y, api.Finding{Step: api.VsEpochs, Party: c.party, E: c.e})
		if place, e := epoch.Check(ring(), y.Epochs); e != c.e || place < c.place {
			t.Error("the test is wrong:", i, place, e)
		}
		y = with(y, func(y *api.Reply) { y.Heard = 0 })
		check(t, "P46.9: epochs that were not heard:", y, api.Finding{})
	}
}

func TestPurge(t *testing.T) {
	x := plain(rule())
	hard := api.Finding{Step: api.VsPurge, Party: 1003, E: api.ErrState}
	old := api.Finding{Step: api.VsAge, Party: 1003, E: api.ErrTime}
	purge := func(kind int, what string, soft bool) [][]api.Purge {
		return [][]api.Purge{{{Kind: kind, What: what, Soft: soft}}}
	}
	for _, c := range []struct {
		at     api.Period
		purges [][]api.Purge
		mode   int
		f      api.Finding
	}{
		{at(10, 20), purge(api.PuTag, "acme:hot", false), 0, hard}, {at(10, 19), purge(api.PuTag, "acme:hot", false), 0, api.Finding{}}, {at(10, 40), purge(api.PuAddress, "acme/news/a", false), 0, hard}, {at(10, 40), purge(api.PuPrefix, "acme", false), 0, hard}, {at(10, 40), purge(api.PuPrefix, "acme/new", false), 0, api.Finding{}}, {at(10, 40), purge(api.PuAddress, "acme/news", false), 0, api.Finding{}}, {at(10, 40), purge(api.PuTag, "acm:hot", false), 0, api.Finding{}}, {at(10, 40), purge(api.PuTag, "acme:cold", false), 0, api.Finding{}},
		{at(10, 40), purge(api.PuTag, "acme:news", true), api.PoFresh, old}, {at(10, 40), purge(api.PuTag, "acme:news", true), api.PoStale, api.Finding{}}, {at(10, 40), purge(api.PuTag, "acme:news", true), api.PoDown, api.Finding{}}, {at(10, 19), purge(api.PuTag, "acme:news", true), api.PoFresh, api.Finding{}},
		{at(10, 40), [][]api.Purge{{{Kind: api.PuTag, What: "acme:hot", Soft: true}, {Kind: api.PuTag, What: "acme:news"}}}, api.PoStale, hard},
	} {
		y := chained(t, x, []api.Period{c.at}, c.purges)
		check(t, "P46.2: purge:", with(y, func(y *api.Reply) { y.Mode = c.mode }), c.f)
	}
	y := logged(x)
	y.Epochs = []api.Epoch{{At: at(900, 900), Purges: []api.Purge{{Kind: api.PuTag, What: "acme:hot:x"}, {Kind: 0, What: "acme/news/a"}, {Kind: api.PuPrefix, What: "acme/"}, {Kind: api.PuPrefix, What: ""}, {Kind: api.PuTag, What: ":hot"}}}}
	y = with(y, func(y *api.Reply) { y.Heard = 1 })
	if verify.Step(y, api.VsPurge) != api.OK || verify.Step(y, api.VsAge) != api.OK {
		t.Error("P46.2: purges that are not valid hit nothing")
	}
}

// TestPurgesAsEpochs compares what is removed with layer 31.
func TestPurgesAsEpochs(t *testing.T) {
	r := rand.New(rand.NewSource(46))
	counts := map[int]int{}
	for range 2000 {
		x := plain(rule())
		addr := []string{"acme/news/a", "acme", "acme/news?a=b", "acme/news"}[r.Intn(4)]
		x.Shown.Reply.Ask.Addr, x.Shown.Reply.Stamp.Addr, x.Shown.Reply.Stamp.Tags = addr, addr, []string{"", "hot", "hot,news"}[r.Intn(3)]
		for range 1 + r.Intn(5) {
			var purges []api.Purge
			for range r.Intn(4) {
				kind := 1 + r.Intn(3)
				what := [][]string{nil, {"acme/news/a", "acme/news?a=b", "acme"}, {"acme/news", "acme", "acm"}, {"acme:hot", "acme:news", "bolt:hot"}}[kind][r.Intn(3)]
				purges = append(purges, api.Purge{Kind: kind, What: what, Soft: r.Intn(3) > 0})
			}
			lo := 5 + len(x.Epochs)*5
			e, _ := epoch.Issue(key(api.Authority, 1), x.Epochs, at(lo, lo+r.Intn(5)), purges, nil)
			x.Epochs = append(x.Epochs, e)
		}
		x.Shown.Reply.Heard, x.Shown.Reply.Mode = r.Intn(len(x.Epochs)+1), r.Intn(3)
		x.Shown.Reply.Stamp.At = at(r.Intn(15), 30)
		state := epoch.Fold(x.Epochs[:x.Shown.Reply.Heard]).State(x.Shown.Reply.Stamp)
		counts[state]++
		if got := verify.Step(x, api.VsPurge); (got == api.ErrState) != (state == api.CoRemoved) {
			t.Fatal("P46.2: purge:", x.Epochs, state, got)
		}
		fresh := state == api.CoFresh || state == api.CoStale && x.Shown.Reply.Mode != api.PoFresh
		if got := verify.Step(x, api.VsAge); (got == api.OK) != fresh {
			t.Fatal("P46.2: age:", x.Epochs, state, x.Shown.Reply.Mode, got)
		}
	}
	if counts[0] < 100 || counts[1] < 100 || counts[2] < 100 {
		t.Error("the test is one-sided:", counts)
	}
}

func TestLeaf(t *testing.T) {
	r := rand.New(rand.NewSource(46))
	for range 500 {
		var y api.Reply
		fill(r, reflect.ValueOf(&y).Elem())
		if verify.Leaf(y) != replylog.Leaf(y) {
			t.Fatal("P46.1:", y)
		}
	}
}

// fill fills a value with anything.
func fill(r *rand.Rand, v reflect.Value) {
	switch v.Kind() {
	case reflect.Struct:
		for i := range v.NumField() {
			fill(r, v.Field(i))
		}
	case reflect.Slice:
		v.Set(reflect.MakeSlice(v.Type(), r.Intn(4), 4))
		for i := range v.Len() {
			fill(r, v.Index(i))
		}
	case reflect.Array:
		for i := range v.Len() {
			fill(r, v.Index(i))
		}
	case reflect.Int:
		v.SetInt(int64(r.Uint64()) >> r.Intn(64))
	case reflect.Uint8:
		v.SetUint(uint64(r.Intn(256)))
	case reflect.String:
		v.SetString("abcdefgh"[r.Intn(8):])
	case reflect.Bool:
		v.SetBool(r.Intn(2) == 0)
	}
}

// TestAnything tries evidence that is well-formed enough for all steps, and otherwise anything.
func TestAnything(t *testing.T) {
	r := rand.New(rand.NewSource(47))
	for range 500 {
		x := plain(rule())
		was := x.Shown.Reply
		fill(r, reflect.ValueOf(&x.Shown).Elem())
		fill(r, reflect.ValueOf(&x.Policies).Elem())
		fill(r, reflect.ValueOf(&x.Epochs).Elem())
		if f := verify.Verify(x); f.Step != api.VsLog || f.Party != 0 || f.E == api.OK {
			t.Fatal("P46.6:", f)
		}
		y := &x.Shown.Reply
		y.Site, y.Ask, y.Mode, y.Heard, y.Stamp.At, y.Stamp.Size, y.Span = was.Site, was.Ask, r.Intn(3), r.Intn(4), was.Stamp.At, was.Stamp.Size, was.Span
		for n := range api.VsLast + 1 {
			verify.Step(x, n)
			if p := verify.Party(x, n); p != 0 && p != api.Authority && p != 1003 {
				t.Fatal("P46.7:", n, p)
			}
		}
		verify.Identity(x)
	}
}

func TestTwice(t *testing.T) {
	x := with(signed(t, api.Cond{To: always, Uses: 3}), func(y *api.Reply) { y.Used = 2 })
	change := func(f func(y *api.Reply)) api.Evidence { return with(x, f) }
	id := chain.Identity(x.Shown.Reply.Token)
	if d, n := verify.Identity(x); d != id || n != 2 {
		t.Error("P46.4: Identity:", d, n)
	}
	for i, y := range []api.Evidence{change(func(y *api.Reply) { y.Rule.Signed = false }), change(func(y *api.Reply) { y.Token.Conds = nil }), change(func(y *api.Reply) { y.Used = 0 }), change(func(y *api.Reply) { y.Used = -2 }), plain(rule())} {
		if d, n := verify.Identity(y); d != (api.Digest{}) || n != 0 {
			t.Error("P46.4: Identity:", i, d, n)
		}
	}
	narrowed, _ := chain.Narrow(x.Shown.Reply.Token, api.Cond{From: 3, To: always})
	other, _ := chain.Mint(key(9, 1), "other", api.Cond{To: always, Uses: 3})
	bytes := change(func(y *api.Reply) { y.Seq = 1 })
	bytes.Bytes = ""
	for i, c := range []struct {
		y     api.Evidence
		twice bool
	}{
		{x, false}, {change(func(y *api.Reply) { y.Carrier = 8 }), false}, {change(func(y *api.Reply) { y.Seq = 1 }), true}, {change(func(y *api.Reply) { y.Seq = 1; y.Used = 1 }), false}, {change(func(y *api.Reply) { y.Seq, y.Token = 1, narrowed }), true}, {change(func(y *api.Reply) { y.Seq, y.Token = 1, other }), false}, {bytes, false}, {change(func(y *api.Reply) { y.Seq, y.Ask.At = 1, at(50, 60) }), false},
		{change(func(y *api.Reply) {
			y.Site, y.Ask.Site, y.Lease = 4, 4, seal.SealLease(key(api.Authority, 1), api.Lease{Site: 4, Until: 60})
		}), true}, {with(plain(rule()), func(y *api.Reply) { y.Seq = 1 }), false},
	} {
		if verify.Twice(x, c.y) != c.twice || verify.Twice(c.y, x) != c.twice {
			t.Error("P46.4: Twice:", i, verify.Verify(c.y))
		}
	}
	free := logged(plain(rule()))
	if verify.Twice(free, with(free, func(y *api.Reply) { y.Seq = 1 })) {
		t.Error("P46.4: uses that are not counted")
	}
}
