package world

import (
	"strings"

	"weirgate/api"
	"weirgate/chain"
	"weirgate/credit"
	"weirgate/effect"
	"weirgate/epoch"
	"weirgate/lease"
	"weirgate/machine"
	"weirgate/once"
	"weirgate/policy"
	"weirgate/topo"
)

const (
	maxFuel = 20000
	okay    = 200 // the status on which programs work
	noSite  = -1
)

// occasion is an event with its number, from 1 on.
type occasion struct {
	api.Event
	num int
}

// actions returns what events of each kind do.
func actions() map[int]func(w *play, e occasion) {
	return map[int]func(w *play, e occasion){
		api.EvAsk:     (*play).ask,
		api.EvTime:    (*play).time,
		api.EvPurge:   (*play).purge,
		api.EvTell:    (*play).tell,
		api.EvLease:   (*play).lease,
		api.EvCut:     (*play).cutOff,
		api.EvRestart: (*play).fail,
		api.EvArm:     (*play).arm,
		api.EvMint:    (*play).mint,
		api.EvNarrow:  (*play).narrow,
		api.EvUses:    (*play).giveUses,
		api.EvDeal:    (*play).deal,
		api.EvSeal:    (*play).seal,
		api.EvDelay:   (*play).slow,
		api.EvTurn:    (*play).turn,
	}
}

// ask lets a client ask.
func (w *play) ask(e occasion) {
	headers, no, over := w.runProgram(e)
	if over {
		w.answer(noSite, no)
		return
	}
	n := e.Site
	if n == noSite {
		entry, why := topo.Entry(w.topo, e.Ask.Country)
		if why != api.OK || entry >= len(w.sites) {
			w.answer(noSite, api.Mail{Kind: api.MaNo, ID: e.num, E: api.ErrName})
			return
		}
		n = entry
	}
	token, _ := w.tokenOf(e)
	w.take(w.sites[n], api.Mail{Kind: api.MaAsk, ID: e.num, Ask: e.Ask, Headers: headers, Span: e.Span, Carrier: e.Carrier, Token: token})
}

// runProgram lets the headers of a request go through the program of its rule, if it has one; true if there is an answer then.
func (w *play) runProgram(e occasion) ([]api.Header, api.Mail, bool) {
	name := w.programOf(e.Ask.Addr)
	if name == "" {
		return e.Headers, api.Mail{}, false
	}
	fuel, why := effect.Most(w.source.programs[name])
	if why != api.OK || fuel > maxFuel {
		fuel = maxFuel
	}
	out, why := machine.Run(w.source.code[name], api.Edge{Headers: e.Headers, Status: okay}, fuel)
	no := api.Mail{Kind: api.MaNo, ID: e.num, E: why}
	switch {
	case why != api.OK:
		return nil, no, true
	case out.End == api.EnDenied:
		no.E = api.ErrDenied
		return nil, no, true
	case out.End == api.EnReply:
		no.Bytes = out.Text
		return nil, no, true
	}
	return out.Edge.Headers, api.Mail{}, false
}

// programOf returns the program of the rule of an address; nothing if there is none.
func (w *play) programOf(addr string) string {
	customer := addr
	if i := strings.IndexAny(addr, "/?"); i >= 0 {
		customer = addr[:i]
	}
	for _, p := range w.source.policies {
		if p.Customer != customer {
			continue
		}
		if i := policy.Choose(p.Rules, addr, ""); i >= 0 {
			return p.Rules[i].Program
		}
	}
	return ""
}

// tokenOf returns the token of an event; false if there is none.
func (w *play) tokenOf(e occasion) (api.Token, bool) {
	if e.Token < 1 || e.Token > len(w.story.Tokens) {
		return api.Token{}, false
	}
	return w.story.Tokens[e.Token-1], true
}

func (w *play) time(e occasion) {
	w.take(w.sites[e.Site], api.Mail{Kind: api.MaTime, At: w.period(w.now)})
}

func (w *play) seal(e occasion) { w.take(w.sites[e.Site], api.Mail{Kind: api.MaSeal}) }

// purge issues an epoch.
func (w *play) purge(e occasion) {
	var revoked []api.Digest
	if t, known := w.tokenOf(e); known {
		revoked = append(revoked, chain.Identity(t))
	}
	x, why := epoch.Issue(key(api.Authority, "authority"), w.story.Epochs, w.period(w.now), e.Purges, revoked)
	if why != api.OK {
		return
	}
	w.story.Epochs = append(w.story.Epochs, x)
	w.story.Grants, _ = lease.Issue(w.story.Grants)
	deadline, _ := lease.Deadline(w.story.Grants, x.Num)
	w.story.Deadlines = append(w.story.Deadlines, deadline)
}

// tell sends a site all epochs.
func (w *play) tell(e occasion) {
	w.sendTo(w.sites[e.Site], api.Mail{Kind: api.MaEpochs, Epochs: w.story.Epochs})
}

// lease grants a site a lease.
func (w *play) lease(e occasion) {
	g, l, why := lease.Grant(w.story.Grants, key(api.Authority, "authority"), e.Site, w.period(w.now), e.N)
	if why != api.OK {
		return
	}
	w.story.Grants = g
	w.story.Leases = append(w.story.Leases, l)
	w.sendTo(w.sites[e.Site], api.Mail{Kind: api.MaLease, Lease: l})
}

func (w *play) cutOff(e occasion) { w.sites[e.Site].cut = e.N == 1 }

func (w *play) slow(e occasion) { w.sites[e.Site].delay = e.N }

func (w *play) arm(e occasion) { w.sites[e.Site].disk.Arm(e.N) }

// fail lets the power of a site fail.
func (w *play) fail(e occasion) {
	p := w.sites[e.Site]
	w.post(p, w.restart(p, e.N))
}

func (w *play) turn(e occasion) {
	if m, why := topo.Turn(w.topo, e.Site, e.N == 1); why == api.OK {
		w.topo = m
	}
}

// mint lets a customer sign an address.
func (w *play) mint(e occasion) {
	if e.N >= len(w.source.policies) {
		return
	}
	t, why := chain.Mint(customerKey(e.N), e.Text, e.Cond)
	if why != api.OK {
		return
	}
	w.story.Tokens = append(w.story.Tokens, t)
	id := chain.Identity(t)
	if _, known := w.purses[id]; !known {
		w.purses[id], _ = once.New(id, 0, chain.Uses(t))
	}
}

func (w *play) narrow(e occasion) {
	t, known := w.tokenOf(e)
	if !known {
		return
	}
	if t, why := chain.Narrow(t, e.Cond); why == api.OK {
		w.story.Tokens = append(w.story.Tokens, t)
	}
}

// giveUses lets a customer send a site uses, and all that the site has not confirmed.
func (w *play) giveUses(e occasion) {
	t, known := w.tokenOf(e)
	if !known {
		return
	}
	id := chain.Identity(t)
	party := e.Site + 1
	if p, why := once.Give(w.purses[id], party, e.N); why == api.OK {
		w.purses[id] = p
	}
	for _, l := range once.Letters(w.purses[id]) {
		if l.To == party {
			w.sendTo(w.sites[e.Site], api.Mail{Kind: api.MaUses, Uses: l})
		}
	}
}

// deal deals the gateway credits.
func (w *play) deal(e occasion) {
	window := w.now / w.scene.Window
	b, why := credit.Deal(w.bank, window, gateway, e.N)
	if why != api.OK {
		return
	}
	w.bank = b
	if p, why := credit.Receive(w.wallet, window, credit.Dealt(b, window, gateway)); why == api.OK {
		w.wallet = p
	}
}
