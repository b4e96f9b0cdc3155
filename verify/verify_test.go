package verify_test

import (
	"math"
	"slices"
	"testing"

	"weirgate/api"
	"weirgate/chain"
	"weirgate/epoch"
	"weirgate/hash"
	"weirgate/merkle"
	"weirgate/policy"
	"weirgate/replylog"
	"weirgate/seal"
	"weirgate/verify"
)

const always = api.MaxTime + 1

func key(party, serial int) api.Key {
	return api.Key{Party: party, Serial: serial, Secret: "s", From: 0, To: 1000}
}

func ring() []api.Key {
	return []api.Key{key(api.Authority, 1), key(7, 1), key(9, 1), key(api.SiteParty+3, 1), key(api.SiteParty+4, 1)}
}

func at(lo, hi int) api.Period { return api.Period{Lo: lo, Hi: hi} }

func rule() api.Rule {
	return api.Rule{Name: "r", Pattern: "acme/news/**", Fresh: 100, Stale: 20, Down: 30, Negative: 5, Allow: api.Cond{To: always, Countries: []string{"de", "fr"}}, Vary: []api.Vary{{Header: "lang", Values: []string{"de", "en"}, Default: "en"}}}
}

func thePolicy(r api.Rule) api.Policy {
	other := api.Rule{Name: "other", Pattern: "acme/**", Fresh: 7, Allow: api.Cond{To: always}}
	return api.Policy{Customer: "acme", Party: 9, Rules: []api.Rule{r, other}}
}

// plain returns a reply of the site 3 by the rule, and what is needed to check it; it is not yet in a log.
func plain(r api.Rule) api.Evidence {
	const body = "abcdef"
	p := thePolicy(r)
	s := seal.SealStamp(key(7, 1), api.Stamp{Addr: "acme/news/a", Variant: "lang=de", Status: 200, Size: len(body), Body: hash.Of(34, body), Tags: "hot,news", At: at(20, 30)})
	y := api.Reply{
		Site: 3, Ask: api.Ask{Addr: "acme/news/a", Client: "c", Country: "de", Site: 3, At: at(50, 51)}, Headers: []api.Header{{Name: "lang", Value: "de"}},
		Policy: policy.Name(p), Rule: r, Stamp: s, Span: api.Span{From: 0, To: len(body)}, Data: replylog.Data(body),
		Lease: seal.SealLease(key(api.Authority, 1), api.Lease{Site: 3, Until: 60}), Carrier: 5,
	}
	return api.Evidence{Ring: ring(), Policies: []api.Policy{{Customer: "-"}, thePolicy(api.Rule{}), p}, Shown: api.Shown{Reply: y}, Bytes: body, Has: true}
}

// logged seals a log of the site that has the reply at its place.
func logged(x api.Evidence) api.Evidence {
	y := x.Shown.Reply
	var leaves []api.Digest
	for i := range y.Seq + 3 {
		leaves = append(leaves, api.Digest{byte(i)})
	}
	leaves[y.Seq] = replylog.Leaf(y)
	x.Shown.Path, _ = merkle.Inclusion(leaves, y.Seq)
	x.Shown.Head = seal.SealHead(key(api.SiteParty+y.Site, 1), api.Head{Site: y.Site, Size: len(leaves), Root: merkle.Root(leaves), At: at(52, 53)})
	return x
}

// with returns evidence after a change of the reply, which is sealed anew.
func with(x api.Evidence, change func(y *api.Reply)) api.Evidence {
	change(&x.Shown.Reply)
	return logged(x)
}

func token(t *testing.T, conds ...api.Cond) api.Token {
	t.Helper()
	k, e := chain.Mint(key(9, 1), "id", conds[0])
	for _, c := range conds[1:] {
		if e == api.OK {
			k, e = chain.Narrow(k, c)
		}
	}
	if e != api.OK {
		t.Fatal("a token:", e)
	}
	return k
}

func signed(t *testing.T, conds ...api.Cond) api.Evidence {
	r := rule()
	r.Signed = true
	x := plain(r)
	x.Shown.Reply.Token = token(t, conds...)
	return logged(x)
}

func chained(t *testing.T, x api.Evidence, at []api.Period, purges [][]api.Purge, revoked ...api.Digest) api.Evidence {
	t.Helper()
	for i, p := range at {
		e, why := epoch.Issue(key(api.Authority, 1), x.Epochs, p, purges[i], revoked)
		if why != api.OK {
			t.Fatal("an epoch:", why)
		}
		x.Epochs = append(x.Epochs, e)
	}
	return with(x, func(y *api.Reply) { y.Heard = len(x.Epochs) })
}

func check(t *testing.T, name string, x api.Evidence, want api.Finding) {
	t.Helper()
	if f := verify.Verify(x); f != want {
		t.Error(name, f, "and not", want)
	}
	if want.Step != 0 && verify.Step(x, want.Step) != want.E {
		t.Error(name, "Step:", verify.Step(x, want.Step))
	}
	if want.Step != 0 && verify.Party(x, want.Step) != want.Party {
		t.Error(name, "Party:", verify.Party(x, want.Step))
	}
	if want.Step == 0 {
		x.Has, x.Bytes = false, ""
		x.Epochs = append(slices.Clone(x.Epochs), api.Epoch{Num: -5})
		if f := verify.Verify(x); f != want {
			t.Error("P46.9:", name, f)
		}
	}
}

func TestExamples(t *testing.T) {
	x := logged(plain(rule()))
	check(t, "P46.3: as it is:", x, api.Finding{})
	check(t, "P46.3: the time:", with(x, func(y *api.Reply) { y.Ask.At = at(50, 60) }), api.Finding{Step: api.VsLease, Party: 1003, E: api.ErrTime})
	check(t, "P46.3: Fresh:", with(x, func(y *api.Reply) { y.Rule.Fresh = 20 }), api.Finding{Step: api.VsPolicy, Party: 1003, E: api.ErrRule})
	moved, bytes := x, x
	moved.Shown.Reply.Seq = 1
	check(t, "P46.3: Seq:", moved, api.Finding{Step: api.VsLog, E: api.ErrForm})
	bytes.Bytes = "abcdeg"
	check(t, "P46.3: Bytes:", bytes, api.Finding{Step: api.VsBytes, E: api.ErrSeal})
	check(t, "P46.3: a reply further on:", with(x, func(y *api.Reply) { y.Seq = 12 }), api.Finding{})
}

func TestSteps(t *testing.T) {
	x := logged(plain(rule()))
	for n, title := range []string{"", "log", "form", "stamp", "address", "policy", "epochs", "purge", "age", "lease", "allow", "token", "use", "bytes", "body", ""} {
		if verify.Title(n) != title {
			t.Error("P46.5:", n, verify.Title(n))
		}
		e, party := verify.Step(x, n), verify.Party(x, n)
		if is := title != ""; is && e != api.OK || !is && (e != api.ErrArg || party != 0) {
			t.Error("P46.2:", n, e, party)
		}
		want := 1003
		if n == api.VsLog || n == api.VsBytes || n == api.VsEpochs || title == "" {
			want = 0
		}
		if party != want {
			t.Error("P46.3: Party:", n, party)
		}
	}
	for _, n := range []int{-1, 100, math.MinInt, math.MaxInt} {
		if verify.Title(n) != "" || verify.Step(x, n) != api.ErrArg || verify.Party(x, n) != 0 {
			t.Error("P46.2, P46.5: no step:", n)
		}
	}
}

func TestLog(t *testing.T) {
	x := logged(plain(rule()))
	for _, c := range []struct {
		change func(x *api.Evidence)
		e      api.Errno
	}{
		{func(x *api.Evidence) { x.Shown.Head.Site = 4; x.Shown.Head.Seal[0]++ }, api.ErrArg}, {func(x *api.Evidence) { x.Shown.Reply.Site = 4 }, api.ErrArg}, {func(x *api.Evidence) { x.Shown.Head.Seal[0]++; x.Shown.Path = nil }, api.ErrSeal}, {func(x *api.Evidence) { x.Ring = x.Ring[:3] }, api.ErrName}, {func(x *api.Evidence) { x.Shown.Head.At.Hi = 1000 }, api.ErrTime},
		{func(x *api.Evidence) { x.Shown.Path = x.Shown.Path[1:] }, api.ErrForm}, {func(x *api.Evidence) { x.Shown.Reply.Carrier++ }, api.ErrForm}, {func(x *api.Evidence) { x.Shown.Reply.Seq = -1 }, api.ErrForm}, {func(x *api.Evidence) { x.Shown.Reply.Site = 64; x.Shown.Head.Site = 64 }, api.ErrArg},
	} {
		y := x
		c.change(&y)
		check(t, "P46.2: log:", y, api.Finding{Step: api.VsLog, E: c.e})
	}
}

func TestForm(t *testing.T) {
	x := plain(rule())
	for _, change := range []func(y *api.Reply){
		func(y *api.Reply) { y.Ask.Addr = "acme/News" }, func(y *api.Reply) { y.Ask.Country = "d" }, func(y *api.Reply) { y.Ask.Client = "" }, func(y *api.Reply) { y.Ask.At = at(51, 50) }, func(y *api.Reply) { y.Ask.Site = 4 }, func(y *api.Reply) { y.Mode = -1 }, func(y *api.Reply) { y.Mode = 3 }, func(y *api.Reply) { y.Heard = -1 }, func(y *api.Reply) { y.Heard = api.MaxEpochs + 1 },
		func(y *api.Reply) { y.Stamp.At = at(-1, 3) }, func(y *api.Reply) { y.Stamp.At = at(5, 3) }, func(y *api.Reply) { y.Stamp.At.Hi = api.MaxTime + 1 }, func(y *api.Reply) { y.Span.From = -1 }, func(y *api.Reply) { y.Span = api.Span{From: 3, To: 2} }, func(y *api.Reply) { y.Span.To = 7 }, func(y *api.Reply) { y.Stamp.Size = 5 }, func(y *api.Reply) { y.Stamp.Size = math.MinInt },
	} {
		y := with(x, change)
		check(t, "P46.2: form:", y, api.Finding{Step: api.VsForm, Party: 1003, E: api.ErrForm})
	}
	check(t, "P46.2: another site:", with(x, func(y *api.Reply) {
		y.Site, y.Ask.Site, y.Lease = 4, 4, seal.SealLease(key(api.Authority, 1), api.Lease{Site: 4, Until: 60})
	}), api.Finding{})
}

func TestStampAndAddress(t *testing.T) {
	x := plain(rule())
	resealed := func(change func(s *api.Stamp)) func(y *api.Reply) {
		return func(y *api.Reply) {
			change(&y.Stamp)
			y.Stamp = seal.SealStamp(key(7, 1), y.Stamp)
		}
	}
	for _, c := range []struct {
		name   string
		change func(y *api.Reply)
		step   int
		e      api.Errno
	}{
		{"another stamp", func(y *api.Reply) { y.Stamp.Status = 404 }, api.VsStamp, api.ErrSeal}, {"no gateway", func(y *api.Reply) { y.Stamp.Gate = 8 }, api.VsStamp, api.ErrName}, {"no key", func(y *api.Reply) { y.Stamp.Serial = 2 }, api.VsStamp, api.ErrName}, {"too late", resealed(func(s *api.Stamp) { s.At.Hi = 1000 }), api.VsStamp, api.ErrTime},
		{"another address", resealed(func(s *api.Stamp) { s.Addr = "acme/news/b" }), api.VsAddress, api.ErrName}, {"another variant", resealed(func(s *api.Stamp) { s.Variant = "lang=en" }), api.VsAddress, api.ErrForm}, {"other headers", func(y *api.Reply) { y.Headers = nil }, api.VsAddress, api.ErrForm}, {"ways to vary", func(y *api.Reply) { y.Rule.Vary = append(y.Rule.Vary, y.Rule.Vary...) }, api.VsAddress, api.ErrForm},
		{"more headers", func(y *api.Reply) { y.Headers = append(y.Headers, api.Header{Name: "lang", Value: "en"}) }, 0, 0},
		{"the default", func(y *api.Reply) { resealed(func(s *api.Stamp) { s.Variant = "lang=en" })(y); y.Headers = nil }, 0, 0},
	} {
		f := api.Finding{Step: c.step, Party: 1003, E: c.e}
		if c.step == 0 {
			f = api.Finding{}
		}
		check(t, "P46.2: "+c.name+":", with(x, c.change), f)
	}
}

func TestPolicy(t *testing.T) {
	x := plain(rule())
	wrong := api.Finding{Step: api.VsPolicy, Party: 1003, E: api.ErrRule}
	for _, change := range []func(r *api.Rule){
		func(r *api.Rule) { r.Name = "q" }, func(r *api.Rule) { r.Pattern = "acme/**" }, func(r *api.Rule) { r.Tags = []string{"hot"} }, func(r *api.Rule) { r.Fresh++ }, func(r *api.Rule) { r.Stale++ }, func(r *api.Rule) { r.Down++ }, func(r *api.Rule) { r.Negative++ }, func(r *api.Rule) { r.Signed = true }, func(r *api.Rule) { r.Cost++ }, func(r *api.Rule) { r.Program = "p" },
		func(r *api.Rule) { r.Allow.To-- }, func(r *api.Rule) { r.Allow.From++ }, func(r *api.Rule) { r.Allow.Uses++ }, func(r *api.Rule) { r.Allow.Pattern = "acme/**" }, func(r *api.Rule) { r.Allow.Countries = r.Allow.Countries[:1] }, func(r *api.Rule) { r.Allow.Clients = []string{"c"} }, func(r *api.Rule) { r.Allow.Sites = []int{3} },
		func(r *api.Rule) { r.Vary = []api.Vary{{Header: "lang", Values: []string{"de", "en"}}} }, func(r *api.Rule) {
			r.Vary = []api.Vary{{Header: "lang", Values: []string{"de", "en", "fr"}, Default: "en"}}
		},
	} {
		y := with(x, func(y *api.Reply) { change(&y.Rule) })
		check(t, "P46.2: the rule is another one:", y, wrong)
	}
	y := with(x, func(y *api.Reply) {
		y.Rule.Tags, y.Rule.Allow.Sites, y.Rule.Allow.Clients = []string{}, []int{}, []string{}
	})
	check(t, "P46.2: empty lists:", y, api.Finding{})
	check(t, "P46.2: no policy:", with(x, func(y *api.Reply) { y.Policy[0]++ }), api.Finding{Step: api.VsPolicy, Party: 1003, E: api.ErrName})
	y = logged(x)
	y.Policies = y.Policies[:2]
	check(t, "P46.2: no policies:", y, api.Finding{Step: api.VsPolicy, Party: 1003, E: api.ErrName})
	tagged := rule()
	tagged.Tags = []string{"cold"}
	y = plain(tagged)
	check(t, "P46.2: the tags of the stamp decide:", logged(y), wrong)
	none := thePolicy(rule())
	none.Rules = nil
	y.Policies = []api.Policy{none}
	check(t, "P46.2: no rule:", with(y, func(y *api.Reply) { y.Policy = policy.Name(none) }), wrong)
	bad := thePolicy(rule())
	bad.Party = 0
	y.Policies = []api.Policy{bad}
	check(t, "P46.2: a policy with an error:", with(y, func(y *api.Reply) { y.Policy = policy.Name(bad) }), api.Finding{Step: api.VsPolicy, Party: 1003, E: api.ErrName})
}

func TestAge(t *testing.T) {
	x := plain(rule())
	late := func(lo, hi int) api.Evidence {
		return with(x, func(y *api.Reply) {
			y.Ask.At, y.Lease = at(lo, hi), seal.SealLease(key(api.Authority, 1), api.Lease{Site: 3, Until: 900})
		})
	}
	old := api.Finding{Step: api.VsAge, Party: 1003, E: api.ErrTime}
	check(t, "P46.2: old enough:", late(100, 120), api.Finding{})
	check(t, "P46.2: too old:", late(100, 121), old)
	check(t, "P46.2: while it is asked for anew:", with(late(100, 140), func(y *api.Reply) { y.Mode = api.PoStale }), api.Finding{})
	check(t, "P46.2: too old for that:", with(late(100, 141), func(y *api.Reply) { y.Mode = api.PoStale }), old)
	check(t, "P46.2: while the origin fails:", with(late(100, 150), func(y *api.Reply) { y.Mode = api.PoDown }), api.Finding{})
	check(t, "P46.2: too old for that:", with(late(100, 151), func(y *api.Reply) { y.Mode = api.PoDown }), old)
	y := with(x, func(y *api.Reply) { y.Rule.Name = "" })
	if e := verify.Step(y, api.VsAge); e != api.ErrRule {
		t.Error("P46.2: age: a rule that is not valid:", e)
	}
	if e := verify.Step(y, api.VsAllow); e != api.ErrRule {
		t.Error("P46.2: allow: a rule that is not valid:", e)
	}
}

func TestLeaseAndAllow(t *testing.T) {
	x := plain(rule())
	leased := func(l api.Lease) func(y *api.Reply) {
		return func(y *api.Reply) { y.Lease = seal.SealLease(key(api.Authority, 1), l) }
	}
	for _, c := range []struct {
		change func(y *api.Reply)
		step   int
		e      api.Errno
	}{
		{leased(api.Lease{Site: 4, Until: 60}), api.VsLease, api.ErrArg}, {func(y *api.Reply) { y.Lease.Until = 61 }, api.VsLease, api.ErrSeal}, {func(y *api.Reply) { y.Lease = seal.SealLease(key(7, 1), y.Lease) }, 0, 0}, {func(y *api.Reply) { y.Lease.Serial = 2 }, api.VsLease, api.ErrName}, {leased(api.Lease{Site: 3, Until: 1001}), api.VsLease, api.ErrTime}, {leased(api.Lease{Site: 3, Until: 1000}), 0, 0},
		{leased(api.Lease{Site: 3, Until: 51}), api.VsLease, api.ErrTime}, {leased(api.Lease{Site: 3, Until: 52}), 0, 0}, {leased(api.Lease{Site: 3, Until: 60, Epoch: 1}), api.VsLease, api.ErrState}, {leased(api.Lease{Site: 3, Until: 20, Epoch: 1}), api.VsLease, api.ErrState}, {func(y *api.Reply) { y.Lease = api.Lease{Site: 3} }, api.VsLease, api.ErrName},
		{func(y *api.Reply) { y.Ask.Country = "it" }, api.VsAllow, api.ErrDenied}, {func(y *api.Reply) { y.Ask.Country = "fr" }, 0, 0},
	} {
		f := api.Finding{Step: c.step, Party: 1003, E: c.e}
		if c.step == 0 {
			f = api.Finding{}
		}
		check(t, "P46.2: lease, allow:", with(x, c.change), f)
	}
}

func TestToken(t *testing.T) {
	good := api.Cond{To: always, Pattern: "acme/**"}
	x := signed(t, good)
	check(t, "P46.2: a token:", x, api.Finding{})
	check(t, "P46.2: a narrowed token:", signed(t, good, api.Cond{From: 50, To: 52}), api.Finding{})
	fails := func(name string, x api.Evidence, e api.Errno) {
		check(t, "P46.2: token: "+name+":", x, api.Finding{Step: api.VsToken, Party: 1003, E: e})
	}
	fails("too late", signed(t, good, api.Cond{From: 50, To: 51}), api.ErrDenied)
	fails("another address", signed(t, api.Cond{To: always, Pattern: "acme/x"}), api.ErrDenied)
	fails("none", with(x, func(y *api.Reply) { y.Token = api.Token{} }), api.ErrForm)
	fails("a condition taken away", with(signed(t, good, good), func(y *api.Reply) { y.Token.Conds = y.Token.Conds[1:] }), api.ErrSeal)
	fails("another serial number", with(x, func(y *api.Reply) { y.Token.Serial = 2 }), api.ErrName)
	fails("another customer", with(x, func(y *api.Reply) {
		y.Token, _ = chain.Mint(key(7, 1), "id", good)
	}), api.ErrOwner)
	lateKey := x
	lateKey.Ring = ring()
	lateKey.Ring[2].To = 51
	fails("a key that does not count any more", lateKey, api.ErrTime)
	if e := verify.Step(with(x, func(y *api.Reply) { y.Policy[0]++ }), api.VsToken); e != api.ErrName {
		t.Error("P46.2: token: no policy:", e)
	}
	if e := verify.Step(with(logged(plain(rule())), func(y *api.Reply) { y.Token.ID = "?" }), api.VsToken); e != api.OK {
		t.Error("P46.2: token: a rule that is not signed:", e)
	}
	lack := with(x, func(y *api.Reply) { y.Heard = 1 })
	if e, p := verify.Step(lack, api.VsToken), verify.Party(lack, api.VsToken); e != api.ErrArg || p != 0 {
		t.Error("P46.2, P46.3: token: epochs are lacking:", e, p)
	}
	id := chain.Identity(x.Shown.Reply.Token)
	fails("revoked", chained(t, x, []api.Period{at(1, 2)}, [][]api.Purge{nil}, id), api.ErrState)
	unheard := with(chained(t, x, []api.Period{at(1, 2)}, [][]api.Purge{nil}, id), func(y *api.Reply) { y.Heard = 0 })
	check(t, "P46.2: token: revoked later:", unheard, api.Finding{})
	other := chain.Identity(token(t, good))
	other[0]++
	check(t, "P46.2: token: another one is revoked:", chained(t, x, []api.Period{at(1, 2)}, [][]api.Purge{nil}, other), api.Finding{})
}

func TestUse(t *testing.T) {
	counted := signed(t, api.Cond{To: always, Uses: 9}, api.Cond{To: always, Uses: 3})
	free := signed(t, api.Cond{To: always})
	for _, c := range []struct {
		x    api.Evidence
		used int
		ok   bool
	}{
		{counted, 1, true}, {counted, 3, true}, {counted, 0, false}, {counted, 4, false}, {counted, -1, false}, {free, 0, true}, {free, 1, false}, {free, -1, false}, {plain(rule()), 0, true}, {plain(rule()), 1, false},
	} {
		f := api.Finding{Step: api.VsUse, Party: 1003, E: api.ErrLimit}
		if c.ok {
			f = api.Finding{}
		}
		check(t, "P46.2: use:", with(c.x, func(y *api.Reply) { y.Used = c.used }), f)
	}
	bad := with(counted, func(y *api.Reply) { y.Token.ID = "?"; y.Used = 1 })
	if e := verify.Step(bad, api.VsUse); e != api.ErrLimit {
		t.Error("P46.2: use: a token that is not valid:", e)
	}
}

func TestBytes(t *testing.T) {
	x := logged(plain(rule()))
	for _, c := range []struct {
		change func(x *api.Evidence)
		f      api.Finding
	}{
		{func(x *api.Evidence) { x.Has = false }, api.Finding{}}, {func(x *api.Evidence) { x.Has, x.Bytes = false, "other" }, api.Finding{}}, {func(x *api.Evidence) { x.Bytes = "abcde" }, api.Finding{Step: api.VsBytes, E: api.ErrArg}}, {func(x *api.Evidence) { x.Bytes = "abcdefg" }, api.Finding{Step: api.VsBytes, E: api.ErrArg}}, {func(x *api.Evidence) { x.Bytes = "Abcdef" }, api.Finding{Step: api.VsBytes, E: api.ErrSeal}},
		{func(x *api.Evidence) {
			*x = with(*x, func(y *api.Reply) { y.Data = replylog.Data("Abcdef") })
			x.Bytes = "Abcdef"
		}, api.Finding{Step: api.VsBody, Party: 1003, E: api.ErrSeal}},
		{func(x *api.Evidence) {
			*x = with(*x, func(y *api.Reply) { y.Data, y.Span = replylog.Data("XYZ"), api.Span{From: 1, To: 4} })
			x.Bytes = "XYZ"
		}, api.Finding{}},
		{func(x *api.Evidence) {
			*x = with(*x, func(y *api.Reply) { y.Data, y.Span = replylog.Data(""), api.Span{From: 6, To: 6} })
			x.Bytes = ""
		}, api.Finding{}},
	} {
		y := x
		c.change(&y)
		check(t, "P46.2: bytes:", y, c.f)
	}
}
