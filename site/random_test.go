package site_test

import (
	"math/rand"
	"slices"
	"testing"

	"weirgate/api"
	"weirgate/chain"
	"weirgate/once"
	"weirgate/policy"
	"weirgate/replylog"
	"weirgate/site"
	"weirgate/verify"
)

// life is a site that takes mail of all kinds, and what has to be known to judge it.
type life struct {
	*bench
	r        *rand.Rand
	policies []api.Policy
	tokens   []api.Token
	fetches  []api.Mail
	purse    map[api.Digest]api.Purse
	until    int
	open     map[int]bool // requests of this life
	bytes    map[int]string
	kinds    map[int]int
	errors   map[api.Errno]int
	revoked  bool
}

func randomPolicy(r *rand.Rand) api.Policy {
	p := policyOf()
	for i, name := range []string{"one", "two", "three"}[:1+r.Intn(3)] {
		x := rule(name, []string{"acme/**", "acme/a", "acme/*"}[r.Intn(3)], r.Intn(400))
		x.Stale, x.Down, x.Negative = r.Intn(300), r.Intn(2000), r.Intn(100)
		if r.Intn(3) == 0 {
			x.Tags = []string{"hot"}
		}
		if r.Intn(2) == 0 {
			x.Vary = []api.Vary{{Header: "lang", Values: []string{"de", "en"}, Default: []string{"", "en"}[r.Intn(2)]}}
		}
		x.Signed = r.Intn(3) == 0
		if r.Intn(4) == 0 {
			x.Allow.Countries = []string{"fr"}
		}
		if i == 2 {
			x = rule(name, "acme/**", 300)
		}
		p.Rules = append(p.Rules, x)
	}
	return p
}

func newLife(t *testing.T, r *rand.Rand) *life {
	p := randomPolicy(r)
	b := newBench(t, config(p))
	x := &life{bench: b, r: r, policies: []api.Policy{p}, purse: map[api.Digest]api.Purse{}, open: map[int]bool{}, bytes: map[int]string{}, kinds: map[int]int{}, errors: map[api.Errno]int{}}
	for _, id := range []string{"a", "b"} {
		k, _ := chain.Mint(key(acme), id, api.Cond{To: always, Uses: 3 * r.Intn(3)})
		narrow, _ := chain.Narrow(k, api.Cond{From: 300, To: always, Uses: 2})
		x.tokens = append(x.tokens, k, narrow)
		x.purse[chain.Identity(k)], _ = once.New(chain.Identity(k), 0, 9)
	}
	return x
}

// give takes a mail, and looks at the answers.
func (x *life) give(m api.Mail) {
	if m.Kind == api.MaAsk {
		x.open[m.ID] = true
	}
	for _, a := range x.take(m) {
		x.kinds[a.Kind]++
		switch a.Kind {
		case api.MaReply, api.MaNo:
			if !x.open[a.ID] {
				x.t.Fatal("P47.8: answered twice:", a.ID)
			}
			delete(x.open, a.ID)
			x.errors[a.E]++
			if a.Kind == api.MaReply {
				x.bytes[a.Reply.Seq] = a.Bytes
			}
		case api.MaFetch:
			x.fetches = append(x.fetches, a)
		}
	}
	if len(x.open) != x.s.Waiting() {
		x.t.Fatal("P47.6: Waiting:", len(x.open), x.s.Waiting())
	}
}

func (x *life) someAsk() api.Mail {
	m := x.ask([]string{"acme/a", "acme/b", "acme/a/b", "acme", "bolt/x"}[x.r.Intn(5)])
	if x.r.Intn(2) == 0 {
		m.Headers = []api.Header{{Name: "lang", Value: []string{"de", "en", "fr"}[x.r.Intn(3)]}}
	}
	if x.r.Intn(2) == 0 {
		m.Token = x.tokens[x.r.Intn(len(x.tokens))]
	}
	m.Ask.Country = []string{"de", "fr"}[x.r.Intn(2)]
	m.Span = api.Span{From: x.r.Intn(3) * x.r.Intn(2), To: x.r.Intn(5) * x.r.Intn(2)}
	return m
}

// someGot answers a fetch of this life, or of another one, as it should be, or not.
func (x *life) someGot() api.Mail {
	if len(x.fetches) == 0 {
		return api.Mail{Kind: api.MaGot}
	}
	i := x.r.Intn(len(x.fetches))
	f := x.fetches[i]
	if x.r.Intn(4) > 0 {
		x.fetches = slices.Delete(slices.Clone(x.fetches), i, i+1)
	}
	lo := max(0, x.local-x.r.Intn(100))
	m := stamped(f, []string{"abcd", "abce", ""}[x.r.Intn(3)], at(lo, lo+20), []string{"", "hot"}[x.r.Intn(2)])
	switch x.r.Intn(10) {
	case 0, 1:
		m.Failed = true
	case 4:
		m.Stamp.Size++
	case 2, 3:
		m.Bytes = ""
	}
	return m
}

func (x *life) step() {
	x.local += x.r.Intn(30)
	switch x.r.Intn(24) {
	case 0:
		x.give(api.Mail{Kind: api.MaTime, At: at(max(0, x.local-x.r.Intn(20)), x.local+x.r.Intn(20))})
	case 1:
		x.until = max(x.until, x.local+x.r.Intn(600))
		x.give(x.lease(x.r.Intn(len(x.epochs)+1), x.until))
	case 2:
		x.more()
	case 3:
		x.give(api.Mail{Kind: api.MaEpochs, Epochs: x.epochs[:x.r.Intn(len(x.epochs)+1)]})
	case 4:
		x.uses()
	case 5:
		if x.r.Intn(4) == 0 {
			p := randomPolicy(x.r)
			x.policies = append(x.policies, p)
			x.give(api.Mail{Kind: api.MaPolicies, Policies: []api.Policy{p}})
		}
	case 6:
		x.give(api.Mail{Kind: api.MaSeal})
	case 7:
		x.trouble()
	case 8, 9, 10, 11, 12, 13, 14:
		x.give(x.someGot())
	default:
		x.give(x.someAsk())
	}
}

// more issues an epoch.
func (x *life) more() {
	var revoked []api.Digest
	if x.r.Intn(8) == 0 {
		revoked = []api.Digest{chain.Identity(x.tokens[x.r.Intn(4)])}
	}
	what := []api.Purge{{Kind: api.PuTag, What: "acme:hot"}, {Kind: api.PuAddress, What: "acme/b"}, {Kind: api.PuPrefix, What: "acme/a"}}[x.r.Intn(3)]
	what.Soft = x.r.Intn(2) == 0
	m := x.purge(revoked, what)
	if x.r.Intn(2) == 0 {
		x.give(m)
	}
}

// uses gives the site some uses.
func (x *life) uses() {
	id := chain.Identity(x.tokens[x.r.Intn(4)])
	if p, e := once.Give(x.purse[id], me+1, 1+x.r.Intn(2)); e == api.OK {
		x.purse[id] = p
	}
	for _, l := range once.Letters(x.purse[id]) {
		x.give(api.Mail{Kind: api.MaUses, Uses: l})
	}
}

// trouble lets the disk fail, now or later, or lets the site begin anew.
func (x *life) trouble() {
	switch x.r.Intn(4) {
	case 0:
		x.d.Arm(x.r.Intn(40))
		return
	case 1:
		x.d.Rot(x.r.Intn(x.d.Size()))
		return
	case 2:
		x.d.Flip(x.r.Intn(x.d.Size()), x.r.Intn(512))
		return
	}
	heard := len(x.s.Epochs())
	x.d = x.d.Crash([]int{x.r.Intn(9), x.r.Intn(9)})
	s, e := site.New(x.c, x.d, x.s.Ledger())
	if e != api.OK {
		x.t.Fatal("P47.9:", e)
	}
	x.policies = append(x.policies, x.c.Policies...)
	x.s, x.open = s, map[int]bool{}
	x.local = max(0, x.local-50+x.r.Intn(100))
	x.give(x.someAsk())
	x.give(api.Mail{Kind: api.MaEpochs, Epochs: x.epochs[:heard]})
}

// judge verifies all replies.
func (x *life) judge() {
	x.d = x.d.Crash(nil)
	s, e := site.New(x.c, x.d, x.s.Ledger())
	if e != api.OK {
		x.t.Fatal("P47.9:", e)
	}
	x.s = s
	h := x.one("MaSeal", api.Mail{Kind: api.MaSeal}, api.MaHead).Head
	l := x.s.Ledger()
	if !replylog.Valid(l) {
		x.t.Fatal("P47.2: the ledger")
	}
	type use struct {
		id api.Digest
		n  int
	}
	spent := map[use]bool{}
	for i, y := range l.Replies {
		shown, _ := proof(l, i, h)
		v := api.Evidence{Ring: ring(), Policies: x.policies, Epochs: x.epochs, Shown: shown, Bytes: x.bytes[i], Has: true}
		if f := verify.Verify(v); f != (api.Finding{}) {
			x.t.Fatal("P47.7:", i, f, y)
		}
		if id, n := verify.Identity(v); n > 0 {
			if spent[use{id, n}] {
				x.t.Fatal("P47.8: spent twice:", n)
			}
			spent[use{id, n}] = true
		}
		if policy.Check(x.policies[0]) != api.OK {
			x.t.Fatal("the test is wrong")
		}
	}
}

func TestAnyMail(t *testing.T) {
	r := rand.New(rand.NewSource(47))
	kinds, errors, signed := map[int]int{}, map[api.Errno]int{}, 0
	modes := map[int]int{}
	for range 150 {
		x := newLife(t, r)
		for range 400 {
			x.step()
		}
		x.judge()
		for k, n := range x.kinds {
			kinds[k] += n
		}
		for e, n := range x.errors {
			errors[e] += n
		}
		for _, y := range x.s.Ledger().Replies {
			modes[y.Mode]++
			if y.Used > 0 {
				signed++
			}
		}
	}
	for _, kind := range []int{api.MaReply, api.MaNo, api.MaFetch, api.MaConfirm, api.MaUses, api.MaHead} {
		if kinds[kind] < 100 {
			t.Error("few mails of a kind:", kind, kinds)
		}
	}
	for _, e := range []api.Errno{api.OK, api.ErrTime, api.ErrName, api.ErrDenied, api.ErrOrigin, api.ErrState, api.ErrRange, api.ErrDead, api.ErrForm} {
		if errors[e] < 20 {
			t.Error("few answers:", e, errors)
		}
	}
	if modes[0] < 100 || modes[1] < 100 || modes[2] < 20 || signed < 50 {
		t.Error("few replies:", modes, signed)
	}
}

// TestLife lets an origin answer all fetches: then all requests are answered by replies.
func TestLife(t *testing.T) {
	r := rand.New(rand.NewSource(48))
	for range 50 {
		b := ready(t, rule("all", "acme/**", 500))
		open, fetches := map[int]bool{}, []api.Mail(nil)
		take := func(m api.Mail) {
			for _, a := range b.take(m) {
				switch a.Kind {
				case api.MaFetch:
					fetches = append(fetches, a)
				case api.MaReply:
					delete(open, a.ID)
				default:
					t.Fatal("P47.10:", a.Kind, a.E)
				}
			}
		}
		for range 100 {
			b.local += r.Intn(10)
			if r.Intn(2) == 0 && len(fetches) > 0 {
				i := r.Intn(len(fetches))
				f := fetches[i]
				fetches = slices.Delete(fetches, i, i+1)
				take(stamped(f, f.Stamp.Addr, at(b.local-5, b.local+5), ""))
				continue
			}
			m := b.ask("acme/" + string(rune('a'+r.Intn(8))))
			open[m.ID] = true
			take(m)
		}
		for _, f := range fetches {
			take(stamped(f, f.Stamp.Addr, at(b.local-5, b.local+5), ""))
		}
		if len(open) > 0 || b.s.Waiting() > 0 {
			t.Fatal("P47.8, P47.10:", open)
		}
	}
}
