package site_test

import (
	"slices"
	"testing"

	"weirgate/api"
	"weirgate/chain"
	"weirgate/disk"
	"weirgate/epoch"
	"weirgate/once"
	"weirgate/origin"
	"weirgate/seal"
	"weirgate/site"
	"weirgate/sketch"
	"weirgate/verify"
)

const (
	always  = api.MaxTime + 1
	gateway = 7
	acme    = 9
	me      = 3
)

func key(party int) api.Key {
	return api.Key{Party: party, Serial: 1, Secret: "s", From: 0, To: api.MaxTime}
}

func ring() []api.Key {
	return []api.Key{key(api.Authority), key(gateway), key(acme), key(api.SiteParty + me)}
}

func at(lo, hi int) api.Period { return api.Period{Lo: lo, Hi: hi} }

func open() api.Cond { return api.Cond{To: always} }

func rule(name, pattern string, fresh int) api.Rule {
	return api.Rule{Name: name, Pattern: pattern, Fresh: fresh, Allow: open()}
}

func policyOf(rules ...api.Rule) api.Policy {
	return api.Policy{Customer: "acme", Party: acme, Rules: rules}
}

func config(policies ...api.Policy) api.SiteConfig {
	k, _ := sketch.New(64, 1000)
	return api.SiteConfig{
		Site: me, Key: key(api.SiteParty + me), Ring: ring(), Policies: policies, Accounts: []api.Account{{Tenant: acme, Weight: 1}}, Sketch: k,
		Clock: api.Clock{Local: 0, At: at(0, 10)},
	}
}

// bench is a site, and what is around it.
type bench struct {
	t      *testing.T
	s      *site.Site
	d      *disk.Disk
	c      api.SiteConfig
	epochs []api.Epoch
	local  int
	ids    int
}

func newBench(t *testing.T, c api.SiteConfig) *bench {
	t.Helper()
	b := &bench{t: t, c: c, d: disk.New(2500)}
	s, e := site.New(c, b.d, api.Ledger{Site: me})
	if e != api.OK {
		t.Fatal("P47.1:", e)
	}
	b.s = s
	return b
}

// ready is a bench with the rules of acme, whose site has a lease, at the time 5000.
func ready(t *testing.T, rules ...api.Rule) *bench {
	t.Helper()
	b := newBench(t, config(policyOf(rules...)))
	b.local = 5000
	b.none("MaTime", api.Mail{Kind: api.MaTime, At: at(5000, 5010)})
	b.none("MaLease", b.lease(0, 9000))
	return b
}

func (b *bench) take(m api.Mail) []api.Mail {
	return b.s.Take(m, b.local)
}

// none takes a mail that has no answer.
func (b *bench) none(name string, m api.Mail) {
	b.t.Helper()
	if l := b.take(m); len(l) > 0 {
		b.t.Fatal(name, "has an answer:", l)
	}
}

// one takes a mail that has one answer.
func (b *bench) one(name string, m api.Mail, kind int) api.Mail {
	b.t.Helper()
	l := b.take(m)
	if len(l) != 1 || l[0].Kind != kind {
		b.t.Fatal(name, "has another answer:", l)
	}
	return l[0]
}

// no takes a request that is refused.
func (b *bench) no(name string, m api.Mail, e api.Errno) {
	b.t.Helper()
	l := b.take(m)
	if len(l) != 1 || l[0].Kind != api.MaNo || l[0].E != e || l[0].ID != m.ID {
		b.t.Error(name, "is not refused with", e, l)
	}
}

func (b *bench) lease(epoch, until int) api.Mail {
	return api.Mail{Kind: api.MaLease, Lease: seal.SealLease(key(api.Authority), api.Lease{Site: me, Epoch: epoch, Until: until})}
}

// ask returns a request.
func (b *bench) ask(addr string, headers ...string) api.Mail {
	b.ids++
	m := api.Mail{Kind: api.MaAsk, ID: b.ids, Ask: api.Ask{Addr: addr, Client: "c", Country: "de"}, Carrier: 4}
	for i := 0; i < len(headers); i += 2 {
		m.Headers = append(m.Headers, api.Header{Name: headers[i], Value: headers[i+1]})
	}
	return m
}

// stamped returns what has come for a fetch.
func stamped(f api.Mail, body string, when api.Period, tags string) api.Mail {
	s, e := origin.Stamp(key(gateway), f.Stamp.Addr, f.Stamp.Variant, api.Answer{Status: 200, Size: len(body), Body: origin.Digest(body), Tags: tags, Bytes: body}, when, when)
	if e != api.OK {
		panic(e)
	}
	return api.Mail{Kind: api.MaGot, ID: f.ID, Stamp: s, Bytes: body}
}

// fill lets the site fetch an object.
func (b *bench) fill(m api.Mail, body string, when api.Period, tags string) api.Mail {
	b.t.Helper()
	f := b.one("a miss", m, api.MaFetch)
	return b.one("what has come", stamped(f, body, when, tags), api.MaReply)
}

func (b *bench) purge(revoked []api.Digest, purges ...api.Purge) api.Mail {
	b.t.Helper()
	lo := b.local
	if n := len(b.epochs); n > 0 {
		lo = max(lo, b.epochs[n-1].At.Lo)
	}
	e, why := epoch.Issue(key(api.Authority), b.epochs, at(lo, lo+10), purges, revoked)
	if why != api.OK {
		b.t.Fatal("an epoch:", why)
	}
	b.epochs = append(b.epochs, e)
	return api.Mail{Kind: api.MaEpochs, Epochs: slices.Clone(b.epochs)}
}

func token(c api.Cond) api.Token {
	t, e := chain.Mint(key(acme), "id", c)
	if e != api.OK {
		panic(e)
	}
	return t
}

// uses returns a letter with uses for the site.
func uses(t api.Token, n int) api.Mail {
	p, _ := once.New(chain.Identity(t), 0, n)
	p, e := once.Give(p, me+1, n)
	if e != api.OK {
		panic(e)
	}
	return api.Mail{Kind: api.MaUses, Uses: once.Letters(p)[0]}
}

// checkAll seals the log, and verifies all replies.
func (b *bench) checkAll(policies []api.Policy, bytes map[int]string) {
	b.t.Helper()
	h := b.one("MaSeal", api.Mail{Kind: api.MaSeal}, api.MaHead).Head
	l := b.s.Ledger()
	if h.Size != len(l.Replies) {
		b.t.Fatal("P47.2: MaSeal:", h)
	}
	for i := range l.Replies {
		shown, e := proof(l, i, h)
		body, has := bytes[i]
		x := api.Evidence{Ring: ring(), Policies: policies, Epochs: b.epochs, Shown: shown, Bytes: body, Has: has}
		if f := verify.Verify(x); e != api.OK || f != (api.Finding{}) {
			b.t.Fatal("P47.7:", i, e, f, l.Replies[i])
		}
	}
}
