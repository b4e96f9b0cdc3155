package world

import (
	"math"
	"strconv"

	"weirgate/api"
	"weirgate/bill"
	"weirgate/clock"
	"weirgate/credit"
	"weirgate/disk"
	"weirgate/lease"
	"weirgate/site"
	"weirgate/sketch"
)

const (
	gateway     = 100 // its party
	diskSectors = 1935
	sketchWidth = 64
	sketchTotal = 1000
)

// play is a scene that is played.
type play struct {
	scene  api.Scene
	source source
	ring   []api.Key
	now    int // the true time
	agenda agenda
	sites  []*place
	topo   api.Map
	bank   api.Bank
	wallet api.Wallet               // of the gateway
	purses map[api.Digest]api.Purse // of the customers
	story  api.Story
}

// place is where a site stands, with what befalls it.
type place struct {
	num    int
	site   *site.Site
	disk   *disk.Disk
	config api.SiteConfig
	pace   api.Pace
	delay  int
	cut    bool
}

// Play plays a scene.
func Play(s api.Scene) (api.Story, api.Errno) {
	if e := Check(s); e != api.OK {
		return api.Story{}, e
	}
	w := begin(s)
	act := actions()
	for i, e := range s.Events {
		w.pass(e.At)
		w.now = e.At
		act[e.Kind](w, occasion{e, i + 1})
	}
	w.pass(math.MaxInt)
	w.end()
	return w.story, api.OK
}

// begin returns the world at the beginning of a scene without error.
func begin(s api.Scene) *play {
	x, _ := sourceOf(s)
	w := &play{scene: s, source: x, ring: keys(s, x), agenda: newAgenda(), topo: s.Map, purses: map[api.Digest]api.Purse{}}
	w.bank, _ = credit.NewBank(s.Cap, s.Window)
	w.wallet, _ = credit.NewPurse(s.Window)
	w.story.Grants, _ = lease.New(s.Most)
	w.story.Policies = copyPolicies(x.policies)
	w.story.Ring = keys(s, x)
	for n := range s.Sites {
		w.sites = append(w.sites, w.newPlace(n))
	}
	return w
}

// keys returns the ring with the keys of all parties.
func keys(s api.Scene, x source) []api.Key {
	ring := []api.Key{key(api.Authority, "authority"), key(gateway, "gateway")}
	for i := range x.policies {
		ring = append(ring, customerKey(i))
	}
	for n := range s.Sites {
		ring = append(ring, siteKey(n))
	}
	return ring
}

func key(party int, secret string) api.Key {
	return api.Key{Party: party, Serial: 1, Secret: secret, From: 0, To: api.MaxTime}
}

func customerKey(policy int) api.Key {
	return key(firstCustomer+policy, "customer"+strconv.Itoa(policy))
}

func siteKey(n int) api.Key { return key(api.SiteParty+n, "site"+strconv.Itoa(n)) }

func (w *play) newPlace(n int) *place {
	var accounts []api.Account
	for _, p := range w.source.policies {
		accounts = append(accounts, api.Account{Tenant: p.Party, Weight: 1})
	}
	k, _ := sketch.New(sketchWidth, sketchTotal)
	p := &place{num: n, disk: disk.New(diskSectors), pace: api.Pace{Len: api.MaxTime, Ppm: w.scene.Ppm[n]}}
	p.config = api.SiteConfig{
		Site: n, Key: siteKey(n), Ring: w.ring, Policies: w.source.policies, Accounts: accounts, Sketch: k,
		Clock: api.Clock{At: api.Period{Hi: w.scene.Error}, Drift: w.scene.Drift},
	}
	p.site, _ = site.New(p.config, p.disk, api.Ledger{Site: n})
	return p
}

// reading returns what the clock of a site shows at an instant.
func (p *place) reading(now int) int {
	local, _ := clock.Show(0, []api.Pace{p.pace}, now)
	return local
}

// period returns what the authority, customers and gateways know of the time at an instant.
func (w *play) period(now int) api.Period {
	return api.Period{Lo: max(0, now-w.scene.Error), Hi: now + w.scene.Error}
}

// pass lets everything happen that does so until an instant.
func (w *play) pass(until int) {
	for {
		at, t, ok := w.agenda.next(until)
		if !ok {
			return
		}
		w.now = at
		t.happen(w)
	}
}

// end lets all sites seal their logs.
func (w *play) end() {
	w.now += w.scene.Error
	for _, p := range w.sites {
		if p.site.Dead() {
			w.restart(p, 0)
		}
		local := p.reading(w.now)
		p.site.Take(api.Mail{Kind: api.MaTime, At: w.period(w.now)}, local)
		p.site.Take(api.Mail{Kind: api.MaSeal}, local)
		w.story.Ledgers = append(w.story.Ledgers, p.site.Ledger())
	}
	w.story.Bill = billOf(w.story.Ledgers)
}

// billOf returns the bill of the last heads of ledgers; nothing, if one has an error.
func billOf(l []api.Ledger) []api.Post {
	var invoices []api.Invoice
	for _, x := range l {
		if len(x.Heads) == 0 {
			return nil
		}
		v, e := bill.Invoice(x, x.Heads[len(x.Heads)-1], 0)
		if e != api.OK {
			return nil
		}
		invoices = append(invoices, v)
	}
	posts, _ := bill.Reconcile(invoices)
	return posts
}

// restart lets a site begin anew after a power failure; it returns what the site answers.
func (w *play) restart(p *place, keep int) []api.Mail {
	left := p.disk.Crash([]int{keep})
	s, e := site.New(p.config, left, p.site.Ledger())
	if e != api.OK {
		return nil
	}
	heard := p.site.Epochs()
	p.site, p.disk = s, left
	return s.Take(api.Mail{Kind: api.MaEpochs, Epochs: heard}, p.reading(w.now))
}
