package site_test

import (
	"math"
	"reflect"
	"slices"
	"strings"
	"testing"

	"weirgate/account"
	"weirgate/api"
	"weirgate/chain"
	"weirgate/clock"
	"weirgate/disk"
	"weirgate/once"
	"weirgate/origin"
	"weirgate/policy"
	"weirgate/replylog"
	"weirgate/seal"
	"weirgate/site"
)

func proof(l api.Ledger, seq int, h api.Head) (api.Shown, api.Errno) {
	return replylog.Proof(l, seq, h)
}

func TestExamples(t *testing.T) {
	b := newBench(t, config(policyOf(rule("all", "acme/**", 1000))))
	b.local = 5000
	b.no("P47.3: a request before there is a lease", b.ask("acme/a"), api.ErrTime)
	b.none("MaTime", api.Mail{Kind: api.MaTime, At: at(5000, 5010)})
	b.none("MaLease", b.lease(0, 9000))
	m := b.ask("acme/a")
	f := b.one("P47.3: a miss", m, api.MaFetch)
	if want := (api.Mail{Kind: api.MaFetch, ID: f.ID, Stamp: api.Stamp{Addr: "acme/a"}}); f.ID < 1 || !reflect.DeepEqual(f, want) || b.s.Waiting() != 1 {
		t.Error("P47.4:", f)
	}
	got := stamped(f, "abc", at(5000, 5005), "hot")
	r := b.one("P47.5: what has come", got, api.MaReply)
	p := policyOf(rule("all", "acme/**", 1000))
	want := api.Reply{
		Site: me, Ask: api.Ask{Addr: "acme/a", Client: "c", Country: "de", Site: me, At: at(5000, 5011)}, Policy: policy.Name(p), Rule: p.Rules[0],
		Stamp: got.Stamp, Mode: api.PoFresh, Span: api.Span{To: 3}, Data: replylog.Data("abc"), Lease: b.lease(0, 9000).Lease, Carrier: 4,
	}
	if !reflect.DeepEqual(r, api.Mail{Kind: api.MaReply, ID: m.ID, Reply: want, Bytes: "abc"}) || b.s.Waiting() != 0 {
		t.Error("P47.3: to give:", r)
	}
	again := b.one("P47.3: the same once more", b.ask("acme/a"), api.MaReply)
	if again.Reply.Seq != 1 || again.Bytes != "abc" || again.Reply.Stamp != got.Stamp {
		t.Error("P47.3: the copy of the store:", again)
	}
	c := b.one("P47.2: MaEpochs", b.purge(nil, api.Purge{Kind: api.PuAddress, What: "acme/a"}), api.MaConfirm)
	if confirm, _ := account.Confirm(key(api.SiteParty+me), me, b.epochs[0], at(5000, 5011)); c.Confirm != confirm {
		t.Error("P47.2: the confirmation:", c)
	}
	f = b.one("P47.3: the purged copy", b.ask("acme/a"), api.MaFetch)
	if f.Known != (api.Digest{}) {
		t.Error("P47.4: Known of a copy that was removed:", f)
	}
	b.local = 9000
	b.no("P47.3: the lease is over", b.ask("acme/a"), api.ErrTime)
	b.checkAll([]api.Policy{p}, map[int]string{0: "abc", 1: "abc"})
}

func TestNew(t *testing.T) {
	good := func() api.SiteConfig { return config(policyOf(rule("all", "acme/**", 1000))) }
	for i, change := range []func(c *api.SiteConfig){
		func(c *api.SiteConfig) { c.Site = -1 }, func(c *api.SiteConfig) { c.Site = 64; c.Key.Party = api.SiteParty + 64 }, func(c *api.SiteConfig) { c.Key.Party-- }, func(c *api.SiteConfig) { c.Key.Secret = "" }, func(c *api.SiteConfig) { c.Policies = append(c.Policies, c.Policies...) }, func(c *api.SiteConfig) { c.Policies[0].Party = 0 },
		func(c *api.SiteConfig) { c.Policies[0].Rules[0].Vary = []api.Vary{{Header: "A"}} }, func(c *api.SiteConfig) { c.Policies = make([]api.Policy, 101) }, func(c *api.SiteConfig) { c.Accounts[0].Used = 1 }, func(c *api.SiteConfig) { c.Accounts[0].Tenant = 0 }, func(c *api.SiteConfig) { c.Sketch.Width = 3 }, func(c *api.SiteConfig) { c.Clock.Drift = -1 },
	} {
		c := good()
		change(&c)
		if s, e := site.New(c, disk.New(2500), api.Ledger{Site: c.Site}); e != api.ErrArg || s != nil {
			t.Error("P47.1: a configuration that is not right:", i, e)
		}
	}
	for i, l := range []api.Ledger{{Site: me + 1}, {Site: me, Tree: api.Peaks{Size: 1}}, {Site: me, Replies: []api.Reply{{Site: me}}}} {
		if s, e := site.New(good(), disk.New(2500), l); e != api.ErrArg || s != nil {
			t.Error("P47.1: the ledger:", i, e)
		}
	}
	if s, e := site.New(good(), disk.New(5), api.Ledger{Site: me}); e == api.OK || e == api.ErrArg && s != nil {
		t.Error("P47.1: no room:", e)
	}
	bad := good()
	bad.Site = -1
	down := disk.New(2500)
	down.Arm(0)
	down.Sync()
	if _, e := site.New(bad, down, api.Ledger{}); e != api.ErrArg {
		t.Error("P47.1: the errors in order:", e)
	}
	if s, e := site.New(good(), down, api.Ledger{Site: me}); e != api.ErrDown || s != nil {
		t.Error("P47.1: a disk that is down:", e)
	}
	c := good()
	c.Policies, c.Accounts = nil, nil
	s, e := site.New(c, disk.New(2500), api.Ledger{Site: me})
	if e != api.OK || s.Dead() || s.Waiting() != 0 || len(s.Epochs()) != 0 || len(s.Policies()) != 0 || s.Held() != (api.Held{Site: me}) || !reflect.DeepEqual(s.Ledger(), api.Ledger{Site: me}) || !reflect.DeepEqual(s.Purse(api.Digest{1}), api.Purse{}) {
		t.Error("P47.1, P47.6: a new site:", e)
	}
}

func TestPurses(t *testing.T) {
	signed := rule("all", "acme/**", 1000)
	signed.Signed = true
	k := token(api.Cond{To: always, Uses: 9})
	other, _ := chain.Mint(key(acme), "other", open())
	l := api.Ledger{Site: me}
	add := func(r api.Reply) {
		r.Site, r.Seq = me, len(l.Replies)
		l, _ = replylog.Append(l, r)
	}
	for _, used := range []int{4, 1, 2, 4, 0, -1, api.MaxUses + 1} {
		add(api.Reply{Rule: signed, Token: k, Used: used})
	}
	add(api.Reply{Rule: rule("x", "acme/**", 5), Token: other, Used: 3})
	add(api.Reply{Rule: signed, Token: api.Token{Customer: acme}, Used: 3})
	add(api.Reply{Rule: signed, Token: other, Used: api.MaxUses})
	s, e := site.New(config(policyOf(signed)), disk.New(2500), l)
	if e != api.OK {
		t.Fatal("P47.1:", e)
	}
	if p := s.Purse(chain.Identity(k)); !reflect.DeepEqual(p, api.Purse{ID: chain.Identity(k), Me: me + 1, Spent: []api.Span{{From: 1, To: 3}, {From: 4, To: 5}}}) {
		t.Error("P47.1: the uses that were spent:", p)
	}
	if p := s.Purse(chain.Identity(other)); !reflect.DeepEqual(p.Spent, []api.Span{{From: api.MaxUses, To: api.MaxUses + 1}}) {
		t.Error("P47.1: another purse:", p)
	}
	for i := range 1001 {
		add(api.Reply{Rule: signed, Token: k, Used: 10 + 2*i})
	}
	if s, e := site.New(config(policyOf(signed)), disk.New(2500), l); e != api.ErrLimit || s != nil {
		t.Error("P47.1: a purse that is not right:", e)
	}
}

func TestOrderOfChecks(t *testing.T) {
	denied := rule("denied", "acme/denied/**", 1000)
	denied.Allow.Countries = []string{"fr"}
	signed := rule("signed", "acme/signed/**", 1000)
	signed.Signed = true
	hidden := rule("hidden", "acme/hidden/**", 1000)
	hidden.Tags = []string{"hot"}
	b := ready(t, denied, signed, hidden, rule("x", "acme/x", 1000))
	good := b.ask("acme/x")
	change := func(f func(m *api.Mail)) api.Mail {
		m := good
		f(&m)
		return m
	}
	for i, m := range []api.Mail{
		change(func(m *api.Mail) { m.Ask.Addr = "acme/X" }), change(func(m *api.Mail) { m.Ask.Country = "" }), change(func(m *api.Mail) { m.Ask.Client = "?" }), change(func(m *api.Mail) { m.Span.From = -1 }), change(func(m *api.Mail) { m.Span.To = -1 }), change(func(m *api.Mail) { m.Headers = make([]api.Header, 101) }),
	} {
		b.no("P47.3: not valid: "+string(rune('0'+i)), m, api.ErrArg)
	}
	b.no("P47.3: no policy", b.ask("bolt/x"), api.ErrName)
	b.no("P47.3: no rule", b.ask("acme/y"), api.ErrName)
	b.no("P47.3: no rule without tags", b.ask("acme/hidden/y"), api.ErrName)
	b.no("P47.3: not permitted", b.ask("acme/denied/y"), api.ErrDenied)
	b.no("P47.3: no token", b.ask("acme/signed/y"), api.ErrForm)
	with := func(k api.Token) api.Mail {
		m := b.ask("acme/signed/y")
		m.Token = k
		return m
	}
	theirs, _ := chain.Mint(key(gateway), "id", open())
	b.no("P47.3: a token of somebody else", with(theirs), api.ErrDenied)
	forged := token(open())
	forged.Seal[0]++
	b.no("P47.3: a token that is forged", with(forged), api.ErrSeal)
	b.no("P47.3: a condition", with(token(api.Cond{To: 5011})), api.ErrDenied)
	if l := b.take(with(token(api.Cond{To: 5012}))); len(l) != 1 || l[0].Kind != api.MaFetch {
		t.Error("P47.3: a token:", l)
	}
	b.one("an epoch", b.purge([]api.Digest{chain.Identity(token(open()))}), api.MaConfirm)
	b.no("P47.3: a revoked token", with(token(open())), api.ErrDenied)
	b.local = 4000
	b.no("P47.3: the clock", good, api.ErrTime)
	b.local = -1
	b.no("P47.3: the clock", change(func(m *api.Mail) { m.Ask.Addr = "" }), api.ErrArg)
	b.local = 8979
	if l := b.take(b.ask("acme/x")); len(l) != 1 || l[0].Kind != api.MaFetch {
		t.Error("P47.3: the lease:", l)
	}
	b.local = 8990
	b.no("P47.3: the lease may be over", b.ask("acme/x"), api.ErrTime)
	b.no("P47.3: before the policy is looked for", b.ask("bolt/x"), api.ErrTime)
	b.no("P47.3: after the ask is looked at", b.ask("bolt/X"), api.ErrArg)
}

func TestStates(t *testing.T) {
	r := rule("all", "acme/**", 100)
	r.Stale, r.Down = 200, 1000
	b := ready(t, r)
	b.fill(b.ask("acme/a"), "abc", at(4990, 5000), "hot")
	read := func(local int) { b.local = local }
	read(5079) // 5090 is the last instant
	if m := b.one("P47.3: fresh", b.ask("acme/a"), api.MaReply); m.Reply.Mode != api.PoFresh || m.Reply.Ask.At.Hi != 5090 {
		t.Error("P47.3: fresh:", m)
	}
	read(5080)
	l := b.take(b.ask("acme/a"))
	if len(l) != 2 || l[0].Kind != api.MaFetch || l[0].Known != origin.Digest("abc") || l[1].Kind != api.MaReply || l[1].Reply.Mode != api.PoStale || b.s.Waiting() != 0 {
		t.Error("P47.3: stale:", l)
	}
	first := l[0]
	if m := b.one("P47.4: a fetch is under way", b.ask("acme/a"), api.MaReply); m.Reply.Mode != api.PoStale {
		t.Error("P47.3: stale:", m)
	}
	read(5280)
	waiting := b.ask("acme/a")
	b.none("P47.3: too old", waiting)
	if b.s.Waiting() != 1 {
		t.Error("P47.6: Waiting")
	}
	l = b.take(api.Mail{Kind: api.MaGot, ID: first.ID, Failed: true})
	if len(l) != 1 || l[0].Kind != api.MaReply || l[0].ID != waiting.ID || l[0].Reply.Mode != api.PoDown {
		t.Error("P47.3: down:", l)
	}
	b.none("P47.5: the fetch is over", api.Mail{Kind: api.MaGot, ID: first.ID, Failed: true})
	f := b.one("P47.3: a new fetch", b.ask("acme/a"), api.MaFetch)
	read(6080)
	l = b.take(api.Mail{Kind: api.MaGot, ID: f.ID, Failed: true})
	if len(l) != 1 || l[0].Kind != api.MaNo || l[0].E != api.ErrOrigin {
		t.Error("P47.3: the fetch has failed:", l)
	}
	b.checkAll([]api.Policy{policyOf(r)}, map[int]string{0: "abc"})
}

func TestSoftPurge(t *testing.T) {
	r := rule("all", "acme/**", 1000)
	r.Stale = 1000
	b := ready(t, r)
	b.fill(b.ask("acme/a"), "abc", at(4990, 5000), "hot")
	b.one("an epoch", b.purge(nil, api.Purge{Kind: api.PuTag, What: "acme:hot", Soft: true}), api.MaConfirm)
	l := b.take(b.ask("acme/a"))
	if len(l) != 2 || l[0].Kind != api.MaFetch || l[1].Reply.Mode != api.PoStale || l[1].Reply.Heard != 1 {
		t.Error("P47.3: after a soft purge:", l)
	}
	b.none("P47.5: nobody waits", stamped(l[0], "abd", at(5011, 5012), "hot"))
	if m := b.one("P47.3: a newer copy", b.ask("acme/a"), api.MaReply); m.Bytes != "abd" || m.Reply.Mode != api.PoFresh {
		t.Error("P47.3: a newer copy:", m)
	}
	b.checkAll([]api.Policy{policyOf(r)}, map[int]string{0: "abc", 1: "abc", 2: "abd"})
}

func TestJoined(t *testing.T) {
	b := ready(t, rule("all", "acme/**", 1000))
	var ids []int
	first := b.ask("acme/a")
	f := b.one("the first miss", first, api.MaFetch)
	ids = append(ids, first.ID)
	for range 5 {
		m := b.ask("acme/a")
		b.none("P47.4: joined", m)
		ids = append(ids, m.ID)
	}
	g := b.one("another object", b.ask("acme/b"), api.MaFetch)
	if b.s.Waiting() != 7 || f.ID == g.ID {
		t.Error("P47.6: Waiting:", b.s.Waiting())
	}
	l := b.take(stamped(f, "abc", at(5000, 5001), ""))
	for i, m := range l {
		if m.Kind != api.MaReply || m.ID != ids[i] || m.Reply.Seq != i {
			t.Error("P47.5: in the order of their numbers:", l)
		}
	}
	if len(l) != 6 || b.s.Waiting() != 1 {
		t.Error("P47.5:", len(l))
	}
	b.none("P47.5: no fetch", stamped(f, "abc", at(5000, 5001), ""))
	b.none("P47.5: no fetch", api.Mail{Kind: api.MaGot, ID: 99, Failed: true})
}

func TestWaits(t *testing.T) {
	b := ready(t, rule("all", "acme/**", 10))
	m := b.ask("acme/a")
	f := b.one("a miss", m, api.MaFetch)
	for range api.MaxWaits - 1 {
		f = b.one("P47.3: too old when it came", stamped(f, "abc", at(4000, 5000), ""), api.MaFetch)
		if f.Known != origin.Digest("abc") {
			t.Error("P47.4: Known of what has just come:", f)
		}
	}
	l := b.take(stamped(f, "abc", at(4000, 5000), ""))
	if len(l) != 1 || l[0].Kind != api.MaNo || l[0].E != api.ErrState || l[0].ID != m.ID || b.s.Waiting() != 0 {
		t.Error("P47.3: it has waited often:", l)
	}
	b.s = ready(t, rule("all", "acme/**", 10)).s
	for range api.MaxWaiting {
		b.take(b.ask("acme/a"))
	}
	b.no("P47.3: too many wait", b.ask("acme/a"), api.ErrLimit)
	b.no("P47.3: a name that is too long", b.ask(longest()), api.ErrLimit)
}

// longest returns an address of as many bytes as there may be.
func longest() string {
	word := strings.Repeat("b", 64)
	addr := "acme" + strings.Repeat("/"+word, api.MaxParts) + "?a" + word[1:] + "=" + word
	for c := byte('b'); len(addr) < api.MaxText-130; c++ {
		addr += "&" + string(c) + word[1:] + "=" + word
	}
	return addr + "&z=" + word[:api.MaxText-len(addr)-3]
}

func TestFailedFetches(t *testing.T) {
	for i, change := range []func(m *api.Mail){
		func(m *api.Mail) { m.Failed = true }, func(m *api.Mail) { m.Stamp.Seal[0]++ }, func(m *api.Mail) { m.Stamp.Gate = 99 }, func(m *api.Mail) {
			m.Stamp.Addr = "acme/b"
			m.Stamp = seal.SealStamp(key(gateway), m.Stamp)
		}, func(m *api.Mail) {
			m.Stamp.Variant = "v"
			m.Stamp = seal.SealStamp(key(gateway), m.Stamp)
		}, func(m *api.Mail) {
			m.Stamp.Size = api.MaxEntry + 1
			m.Stamp = seal.SealStamp(key(gateway), m.Stamp)
		}, func(m *api.Mail) { m.Bytes = "ab" }, func(m *api.Mail) { m.Bytes = "abcd" }, func(m *api.Mail) { m.Bytes = "abd" }, func(m *api.Mail) { m.Bytes = "" },
	} {
		b := ready(t, rule("all", "acme/**", 1000))
		m := b.ask("acme/a")
		got := stamped(b.one("a miss", m, api.MaFetch), "abc", at(5000, 5001), "")
		change(&got)
		l := b.take(got)
		if len(l) != 1 || l[0].Kind != api.MaNo || l[0].E != api.ErrOrigin || l[0].ID != m.ID || b.s.Waiting() != 0 {
			t.Error("P47.5: it has failed:", i, l)
		}
	}
	b := ready(t, rule("all", "acme/**", 1000))
	f := b.one("a miss", b.ask("acme/a"), api.MaFetch)
	b.one("an epoch", b.purge(nil, api.Purge{Kind: api.PuTag, What: "acme:hot"}), api.MaConfirm)
	if l := b.take(stamped(f, "abc", at(5010, 5011), "hot")); len(l) != 1 || l[0].E != api.ErrOrigin {
		t.Error("P47.5: what is purged already:", l)
	}
	f = b.one("a miss", b.ask("acme/a"), api.MaFetch)
	b.one("P47.5: no bytes", stamped(f, "", at(5011, 5012), "hot"), api.MaReply)
	f = b.one("a miss", b.ask("acme/c"), api.MaFetch)
	b.one("P47.5: what is newer than the purge", stamped(f, "abc", at(5011, 5011), "hot"), api.MaReply)
}

func TestKnown(t *testing.T) {
	b := ready(t, rule("all", "acme/**", 100))
	b.fill(b.ask("acme/a"), "abc", at(5000, 5005), "hot")
	b.local = 5200
	f := b.one("P47.4: Known", b.ask("acme/a"), api.MaFetch)
	if f.Known != origin.Digest("abc") {
		t.Error("P47.4: Known:", f)
	}
	got := stamped(f, "abc", at(5190, 5205), "cold")
	got.Bytes = ""
	r := b.one("P47.5: the bytes that the site knows", got, api.MaReply)
	if r.Bytes != "abc" || r.Reply.Stamp != got.Stamp {
		t.Error("P47.5: the bytes that the site knows:", r)
	}
	b.local = 5400
	f = b.one("a miss", b.ask("acme/a"), api.MaFetch)
	got = stamped(f, "abd", at(5390, 5405), "")
	got.Bytes = ""
	if l := b.take(got); len(l) != 1 || l[0].E != api.ErrOrigin {
		t.Error("P47.5: bytes that the site does not know:", l)
	}
}

func TestSpans(t *testing.T) {
	b := ready(t, rule("all", "acme/**", 1000))
	b.fill(b.ask("acme/a"), "abcdef", at(5000, 5005), "")
	for i, x := range []struct {
		span, want api.Span
		bytes      string
		e          api.Errno
	}{
		{api.Span{}, api.Span{To: 6}, "abcdef", 0}, {api.Span{From: 2}, api.Span{From: 2, To: 6}, "cdef", 0}, {api.Span{From: 2, To: 4}, api.Span{From: 2, To: 4}, "cd", 0}, {api.Span{From: 2, To: 99}, api.Span{From: 2, To: 6}, "cdef", 0}, {api.Span{From: 6}, api.Span{From: 6, To: 6}, "", 0}, {api.Span{From: 3, To: 3}, api.Span{From: 3, To: 3}, "", 0},
		{api.Span{From: 7}, api.Span{}, "", api.ErrRange}, {api.Span{From: 7, To: 9}, api.Span{}, "", api.ErrRange}, {api.Span{From: 4, To: 3}, api.Span{}, "", api.ErrRange}, {api.Span{From: math.MaxInt, To: math.MaxInt}, api.Span{}, "", api.ErrRange},
	} {
		m := b.ask("acme/a")
		m.Span = x.span
		l := b.take(m)
		if len(l) != 1 || l[0].E != x.e || l[0].Bytes != x.bytes || l[0].Reply.Span != x.want || (x.e == api.OK) != (l[0].Kind == api.MaReply) || x.e == api.OK && l[0].Reply.Data != replylog.Data(x.bytes) {
			t.Error("P47.3: the span:", i, l)
		}
	}
}

func TestVariants(t *testing.T) {
	hot := rule("hot", "acme/**", 50)
	hot.Tags = []string{"hot"}
	hot.Vary = []api.Vary{{Header: "lang", Values: []string{"de", "en"}, Default: "en"}}
	cold := rule("cold", "acme/**", 1000)
	b := ready(t, hot, cold)
	f := b.one("a miss", b.ask("acme/a", "lang", "de"), api.MaFetch)
	if f.Stamp.Variant != "" {
		t.Error("P47.3: the rule without a copy:", f)
	}
	r := b.one("what has come", stamped(f, "cold", at(5000, 5001), ""), api.MaReply)
	if r.Reply.Rule.Name != "cold" || r.Reply.Headers[0].Value != "de" {
		t.Error("P47.3: the rule:", r)
	}
	b = ready(t, hot, cold)
	f = b.one("a miss", b.ask("acme/a", "lang", "de"), api.MaFetch)
	f = b.one("P47.3: a copy whose tags lead to another rule", stamped(f, "hot", at(5000, 5001), "hot"), api.MaFetch)
	if f.Stamp.Variant != "lang=de" || f.Known != (api.Digest{}) {
		t.Error("P47.3: the variant of the other rule:", f)
	}
	r = b.one("what has come", stamped(f, "heiss", at(5000, 5001), "hot"), api.MaReply)
	if r.Bytes != "heiss" || r.Reply.Rule.Name != "hot" || r.Reply.Stamp.Variant != "lang=de" {
		t.Error("P47.3: the rule of the copy:", r)
	}
	r = b.fill(b.ask("acme/a"), "warm", at(5000, 5001), "hot")
	if r.Bytes != "warm" || r.Reply.Stamp.Variant != "lang=en" {
		t.Error("P47.3: another variant:", r)
	}
	if r = b.one("the store", b.ask("acme/a", "lang", "de"), api.MaReply); r.Bytes != "heiss" {
		t.Error("P47.3: the variant:", r)
	}
	b.checkAll([]api.Policy{policyOf(hot, cold)}, nil)
}

func TestUses(t *testing.T) {
	r := rule("all", "acme/**", 1000)
	r.Signed = true
	b := ready(t, r)
	k := token(api.Cond{To: always, Uses: 3})
	ask := func() api.Mail {
		m := b.ask("acme/a")
		m.Token = k
		return m
	}
	f := b.one("a miss", ask(), api.MaFetch)
	if l := b.take(stamped(f, "abc", at(5000, 5001), "")); len(l) != 1 || l[0].E != api.ErrState {
		t.Error("P47.3: no purse:", l)
	}
	id := chain.Identity(k)
	letter := uses(k, 5)
	ack := b.one("P47.2: MaUses", letter, api.MaUses).Uses
	if !reflect.DeepEqual(ack, api.UseLetter{ID: id, Kind: api.UlAck, From: me + 1, Serial: 1}) {
		t.Error("P47.2: the answer:", ack)
	}
	b.one("P47.2: once more", letter, api.MaUses)
	for i := range 3 {
		m := b.one("P47.3: a use", ask(), api.MaReply)
		if m.Reply.Used != i+1 || !reflect.DeepEqual(m.Reply.Token, k) {
			t.Error("P47.3: a use:", m.Reply.Used)
		}
	}
	b.no("P47.3: a use beyond those of the token", ask(), api.ErrLimit)
	b.no("P47.3: and another one", ask(), api.ErrLimit)
	b.no("P47.3: none is left", ask(), api.ErrState)
	if p := b.s.Purse(id); p.Me != me+1 || len(p.Left) != 0 || !slices.Equal(p.Spent, []api.Span{{From: 1, To: 6}}) {
		t.Error("P47.6: the purse:", p)
	}
	bad := ask()
	bad.Span.From = 9
	b.no("P47.3: no use is spent for a span", bad, api.ErrRange)
	free := ask()
	free.Token, _ = chain.Mint(key(acme), "free", open())
	if m := b.one("P47.3: uses that are not counted", free, api.MaReply); m.Reply.Used != 0 {
		t.Error("P47.3: uses that are not counted:", m.Reply.Used)
	}
	b.checkAll([]api.Policy{policyOf(r)}, nil)
}

func TestLetters(t *testing.T) {
	b := ready(t, rule("all", "acme/**", 1000))
	k := token(open())
	id := chain.Identity(k)
	good := uses(k, 2)
	for i, change := range []func(m *api.Mail){
		func(m *api.Mail) { m.Uses.To = me }, func(m *api.Mail) { m.Uses.Serial = 2 }, func(m *api.Mail) { m.Uses.Kind = api.UlAck }, func(m *api.Mail) { m.Uses.Uses = nil }, func(m *api.Mail) { m.Uses.From = me + 1 }, func(m *api.Mail) { m.Uses.Kind = 9 }, func(m *api.Mail) {
			m.Uses.Uses = nil
			for i := range 1001 {
				m.Uses.Uses = append(m.Uses.Uses, api.Span{From: 1 + 2*i, To: 2 + 2*i})
			}
		},
	} {
		m := good
		change(&m)
		b.none("P47.2: a letter that has no effect", m)
		if !reflect.DeepEqual(b.s.Purse(id), api.Purse{}) {
			t.Error("P47.2: a purse that has heard nothing:", i)
		}
	}
	for i := range 1000 {
		m := good
		m.Uses.ID = api.Digest{1, byte(i), byte(i >> 8)}
		b.one("P47.2: a purse", m, api.MaUses)
	}
	b.none("P47.2: one purse more", good)
	if !reflect.DeepEqual(b.s.Purse(id), api.Purse{}) {
		t.Error("P47.2: one purse more")
	}
	m := good
	m.Uses.ID = api.Digest{1, 7, 0}
	b.one("P47.2: a purse that there is", m, api.MaUses)
	p := b.s.Purse(m.Uses.ID)
	p.Left[0].From = 99
	if q := b.s.Purse(m.Uses.ID); once.Check(q) != api.OK || q.Left[0].From != 1 {
		t.Error("P47.6: purses share memory")
	}
}

func TestOtherMail(t *testing.T) {
	b := ready(t, rule("all", "acme/**", 1000))
	for _, kind := range []int{0, -1, 9, 10, api.MaReply, api.MaNo, api.MaFetch, api.MaConfirm, api.MaHead, math.MaxInt} {
		b.none("P47.2: another kind", api.Mail{Kind: kind, Lease: b.lease(0, 9500).Lease})
	}
	b.none("MaTime", api.Mail{Kind: api.MaTime, At: at(9, 8)})
	b.none("MaTime", api.Mail{Kind: api.MaTime, At: at(100, 200)})
	b.none("MaTime", api.Mail{Kind: api.MaTime, At: at(5004, 5006)})
	if m := b.fill(b.ask("acme/a"), "abc", at(5000, 5001), ""); m.Reply.Ask.At != at(5004, 5007) {
		t.Error("P47.2: MaTime:", m.Reply.Ask.At)
	}
	wrong := b.lease(0, 9999)
	wrong.Lease.Until++
	b.none("MaLease", wrong)
	b.none("MaLease", b.lease(1, 9999))
	b.none("MaLease", b.lease(0, 8000))
	if h := b.s.Held(); h.Lease != b.lease(0, 9000).Lease || h.Heard != 0 {
		t.Error("P47.2: MaLease:", h)
	}
	two := []api.Policy{policyOf(rule("other", "acme/a", 1)), {Customer: "bolt", Party: 5}}
	b.none("MaPolicies", api.Mail{Kind: api.MaPolicies, Policies: []api.Policy{policyOf(), policyOf()}})
	if len(b.s.Policies()) != 1 || b.s.Policies()[0].Rules[0].Name != "all" {
		t.Error("P47.2: policies that are not right")
	}
	b.none("MaPolicies", api.Mail{Kind: api.MaPolicies, Policies: two})
	two[0].Rules[0].Name = "changed"
	if l := b.s.Policies(); len(l) != 2 || l[0].Rules[0].Name != "other" {
		t.Error("P47.2: MaPolicies:", l)
	}
	b.no("P47.2: the new policies", b.ask("acme/b"), api.ErrName)
	b.local = -5
	b.none("P47.2: MaSeal without the time", api.Mail{Kind: api.MaSeal})
	b.local = 5000
	h := b.one("P47.2: MaSeal", api.Mail{Kind: api.MaSeal}, api.MaHead).Head
	if l := b.s.Ledger(); len(l.Heads) != 1 || l.Heads[0] != h || h.At != at(5004, 5007) || h.Size != 1 || !replylog.Valid(l) {
		t.Error("P47.2: MaSeal:", h)
	}
}

func TestEpochs(t *testing.T) {
	b := ready(t, rule("all", "acme/**", 1000))
	b.none("P47.2: no epochs", api.Mail{Kind: api.MaEpochs})
	one := b.purge(nil)
	two := b.purge(nil, api.Purge{Kind: api.PuTag, What: "acme:hot"})
	three := b.purge(nil)
	only := func(from int) api.Mail { return api.Mail{Kind: api.MaEpochs, Epochs: three.Epochs[from:]} }
	heard := func(n int) {
		t.Helper()
		if l := b.s.Epochs(); len(l) != n || b.s.Held().Heard != n || !reflect.DeepEqual(l, append([]api.Epoch(nil), b.epochs[:n]...)) {
			t.Error("P47.2: epochs that were heard:", len(l), b.s.Held())
		}
	}
	b.none("P47.2: not the next one", only(1))
	heard(0)
	b.local = -1
	b.none("P47.2: without the time", one)
	heard(1)
	b.local = 5000
	if c := b.one("P47.2: nothing new", one, api.MaConfirm).Confirm; c.Epoch != 1 {
		t.Error("P47.2: the confirmation:", c)
	}
	if c := b.one("P47.2: nothing new", only(2), api.MaConfirm).Confirm; c.Epoch != 1 {
		t.Error("P47.2: the confirmation:", c)
	}
	forged := slices.Clone(three.Epochs)
	forged[2].Seal[0]++
	if c := b.one("P47.2: as far as they have no error", api.Mail{Kind: api.MaEpochs, Epochs: forged}, api.MaConfirm).Confirm; c.Epoch != 2 {
		t.Error("P47.2: the confirmation:", c)
	}
	heard(2)
	again := append(slices.Clone(two.Epochs), two.Epochs[1], three.Epochs[2])
	if c := b.one("P47.2: those that were heard are passed over", api.Mail{Kind: api.MaEpochs, Epochs: again}, api.MaConfirm).Confirm; c.Epoch != 3 {
		t.Error("P47.2: the confirmation:", c)
	}
	heard(3)
	b.none("P47.2: a lease for what was heard", b.lease(3, 9500))
	if b.s.Held().Lease.Until != 9500 {
		t.Error("P47.2: MaLease:", b.s.Held())
	}
}

func TestRestart(t *testing.T) {
	r := rule("all", "acme/**", 1000)
	b := ready(t, r)
	b.fill(b.ask("acme/a"), "abc", at(5000, 5005), "")
	b.fill(b.ask("acme/b"), "xyz", at(5000, 5005), "hot")
	one := b.purge(nil, api.Purge{Kind: api.PuTag, What: "acme:hot"})
	s, e := site.New(b.c, b.d.Crash(nil), b.s.Ledger())
	if e != api.OK || len(s.Epochs()) != 0 || len(s.Ledger().Replies) != 2 {
		t.Fatal("P47.9:", e)
	}
	b.s, b.local = s, 5100
	b.one("the epochs", one, api.MaConfirm)
	b.no("P47.9: no lease", b.ask("acme/a"), api.ErrTime)
	b.none("MaTime", api.Mail{Kind: api.MaTime, At: at(5100, 5110)})
	b.none("MaLease", b.lease(1, 9000))
	if m := b.one("P47.9: what was stored", b.ask("acme/a"), api.MaReply); m.Bytes != "abc" || m.Reply.Seq != 2 {
		t.Error("P47.9: what was stored:", m)
	}
	b.one("P47.9: what the epochs removed", b.ask("acme/b"), api.MaFetch)
	b.local = 6000
	b.one("P47.9: too old", b.ask("acme/a"), api.MaFetch)
}

func TestDeath(t *testing.T) {
	b := ready(t, rule("all", "acme/**", 1000))
	b.fill(b.ask("acme/old"), "old", at(5000, 5005), "hot")
	var ids []int
	var fetch api.Mail
	for _, addr := range []string{"acme/b", "acme/a", "acme/b", "acme/c"} {
		m := b.ask(addr)
		ids = append(ids, m.ID)
		for _, f := range b.take(m) {
			if addr == "acme/a" {
				fetch = f
			}
		}
	}
	b.d.Arm(0)
	if b.s.Dead() {
		t.Error("P47.6: not dead yet")
	}
	l := b.take(stamped(fetch, "abc", at(5000, 5005), ""))
	for i, m := range l {
		if m.Kind != api.MaNo || m.E != api.ErrDead || m.ID != ids[i] {
			t.Error("P47.2: a dead site:", l)
		}
	}
	if len(l) != len(ids) || !b.s.Dead() || b.s.Waiting() != 0 {
		t.Error("P47.2: a dead site:", l)
	}
	b.no("P47.2: later requests", b.ask("acme/old"), api.ErrDead)
	b.no("P47.2: later requests that are not valid", b.ask("?"), api.ErrDead)
	b.none("P47.2: MaEpochs", b.purge(nil))
	b.none("P47.2: MaSeal", api.Mail{Kind: api.MaSeal})
	b.none("P47.2: MaLease", b.lease(0, 9999))
	b.none("P47.2: MaGot", api.Mail{Kind: api.MaGot, ID: 1, Failed: true})
	b.none("P47.2: MaUses", uses(token(open()), 3))
	b.none("P47.2: MaPolicies", api.Mail{Kind: api.MaPolicies})
	if b.s.Held().Lease.Until != 9000 || len(b.s.Epochs()) != 0 || len(b.s.Policies()) != 1 || len(b.s.Ledger().Replies) != 1 {
		t.Error("P47.2: mail to a dead site has no effect")
	}
	b = ready(t, rule("all", "acme/**", 1000))
	b.fill(b.ask("acme/old"), "old", at(5000, 5005), "hot")
	waiting := b.ask("acme/x")
	b.one("a miss", waiting, api.MaFetch)
	b.d.Arm(0)
	l = b.take(b.purge(nil, api.Purge{Kind: api.PuTag, What: "acme:hot"}))
	if len(l) != 1 || l[0].Kind != api.MaNo || l[0].E != api.ErrDead || l[0].ID != waiting.ID || !b.s.Dead() {
		t.Error("P47.2: it dies when epochs are applied:", l)
	}
}

func TestMemory(t *testing.T) {
	c := config(policyOf(rule("all", "acme/**", 1000)))
	c.Policies[0].Rules[0].Vary = []api.Vary{{Header: "lang", Values: []string{"de"}}}
	b := newBench(t, c)
	b.local = 5000
	b.none("MaTime", api.Mail{Kind: api.MaTime, At: at(5000, 5010)})
	b.none("MaLease", b.lease(0, 9000))
	c.Policies[0].Rules[0].Vary[0].Values[0], c.Ring[1].Secret, c.Accounts[0].Tenant = "xx", "xx", 77
	m := b.ask("acme/a", "lang", "de")
	f := b.one("a miss", m, api.MaFetch)
	m.Headers[0].Value = "fr"
	r := b.one("what has come", stamped(f, "abc", at(5000, 5005), ""), api.MaReply)
	if f.Stamp.Variant != "lang=de" || r.Reply.Headers[0].Value != "de" {
		t.Error("P47.6: the site has memory of others:", f, r)
	}
	l := b.s.Ledger()
	l.Replies[0].Mode = 77
	p := b.s.Policies()
	p[0].Rules[0].Name = "changed"
	if b.s.Ledger().Replies[0].Mode != api.PoFresh || b.s.Policies()[0].Rules[0].Name != "all" {
		t.Error("P47.6: others have memory of the site")
	}
	if _, e := clock.Read(c.Clock, 5); e != api.OK {
		t.Error(e)
	}
}
