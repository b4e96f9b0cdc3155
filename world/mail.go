package world

import (
	"weirgate/account"
	"weirgate/api"
	"weirgate/credit"
	"weirgate/epoch"
	"weirgate/lease"
	"weirgate/once"
	"weirgate/origin"
)

// toSite is mail on the way to a site.
type toSite struct {
	to   *place
	mail api.Mail
}

// fromSite is mail on the way from a site.
type fromSite struct {
	from *place
	mail api.Mail
}

// answered is an answer of the origin to a request that the gateway has sent for a site.
type answered struct {
	site  *place
	fetch api.Mail
	sent  int
	a     api.Answer
}

// take lets a site take mail, and sends its answers.
func (w *play) take(p *place, m api.Mail) {
	w.post(p, p.site.Take(m, p.reading(w.now)))
}

// post sends what a site has answered; clients have their answers at once.
func (w *play) post(p *place, l []api.Mail) {
	for _, m := range l {
		switch m.Kind {
		case api.MaReply, api.MaNo:
			w.answer(p.num, m)
		case api.MaFetch, api.MaConfirm, api.MaUses:
			w.agenda.add(w.now+p.delay, fromSite{p, m})
		}
	}
}

// answer gives a client an answer. Replies are copied, because the log has them, too.
func (w *play) answer(site int, m api.Mail) {
	m.Reply = copyReply(m.Reply)
	w.story.Answers = append(w.story.Answers, api.Told{At: w.now, Event: m.ID, Site: site, Mail: m})
}

func (w *play) sendTo(p *place, m api.Mail) { w.agenda.add(w.now+p.delay, toSite{p, m}) }

func (t toSite) happen(w *play) {
	if !t.to.cut {
		w.take(t.to, t.mail)
	}
}

func (f fromSite) happen(w *play) {
	if f.from.cut {
		return
	}
	switch f.mail.Kind {
	case api.MaConfirm:
		w.confirmed(f.mail.Confirm)
	case api.MaUses:
		w.heardUses(f.from, f.mail.Uses)
	case api.MaFetch:
		w.askOrigin(f.from, f.mail)
	}
}

// confirmed is what the authority does with a confirmation.
func (w *play) confirmed(c api.Confirm) {
	if account.CheckConfirm(w.ring, c) != api.OK || c.Epoch < 1 || c.Epoch > len(w.story.Epochs) || epoch.Name(w.story.Epochs[c.Epoch-1]) != c.Name {
		return
	}
	if g, why := lease.Confirm(w.story.Grants, c.Site, c.Epoch); why == api.OK {
		w.story.Grants = g
		w.story.Confirms = append(w.story.Confirms, c)
	}
}

// heardUses is what a customer does with a letter.
func (w *play) heardUses(from *place, l api.UseLetter) {
	p, known := w.purses[l.ID]
	if !known {
		return
	}
	p, letters := once.Hear(p, l)
	w.purses[l.ID] = p
	for _, l := range letters {
		w.sendTo(from, api.Mail{Kind: api.MaUses, Uses: l})
	}
}

// askOrigin is what the gateway does with a fetch.
func (w *play) askOrigin(from *place, m api.Mail) {
	wallet, why := credit.Spend(w.wallet, w.period(w.now))
	if why != api.OK {
		w.sendTo(from, failed(m))
		return
	}
	w.wallet = wallet
	w.story.Sent = append(w.story.Sent, w.now)
	given, why := origin.Serve(Content(w.scene, m.Stamp.Addr, m.Stamp.Variant), w.scene.Faults, w.now, m.Known)
	if why != api.OK {
		w.sendTo(from, failed(m))
		return
	}
	for _, g := range given {
		w.agenda.add(g.At, answered{from, m, w.now, g.A})
	}
}

func failed(fetch api.Mail) api.Mail {
	return api.Mail{Kind: api.MaGot, ID: fetch.ID, Failed: true}
}

// happen lets the gateway stamp an answer.
func (x answered) happen(w *play) {
	k := key(gateway, "gateway")
	sent, got := w.period(x.sent), w.period(w.now)
	addr, variant := x.fetch.Stamp.Addr, x.fetch.Stamp.Variant
	stamp, why := api.Stamp{}, api.OK
	if x.a.Same {
		stamp, why = origin.Renew(k, api.Stamp{Addr: addr, Variant: variant, Size: x.a.Size, Body: x.fetch.Known}, x.a, sent, got)
	} else {
		stamp, why = origin.Stamp(k, addr, variant, x.a, sent, got)
	}
	if why != api.OK {
		w.sendTo(x.site, failed(x.fetch))
		return
	}
	w.sendTo(x.site, api.Mail{Kind: api.MaGot, ID: x.fetch.ID, Stamp: stamp, Bytes: x.a.Bytes})
}
