package site

import (
	"slices"
	"strings"

	"weirgate/api"
	"weirgate/chain"
	"weirgate/cond"
	"weirgate/join"
	"weirgate/lease"
	"weirgate/once"
	"weirgate/policy"
	"weirgate/replylog"
	"weirgate/seal"
	"weirgate/variant"
)

const (
	maxHeaders = 100
	nobody     = -1 // who waits for what is fetched anew
)

// request is a request that is not answered.
type request struct {
	number int
	mail   api.Mail
	waited int  // how often
	failed bool // what it waited for
}

// look is a request that is looked at.
type look struct {
	*Site
	*request
	ask    api.Ask
	policy api.Policy
	rule   api.Rule
	copy   api.Entry
	has    bool // a copy
}

// ask takes a request.
func (s *Site) ask(m api.Mail) {
	s.last++
	r := &request{number: s.last, mail: api.Mail{ID: m.ID, Ask: m.Ask, Headers: slices.Clone(m.Headers), Token: copyToken(m.Token), Span: m.Span, Carrier: m.Carrier}}
	s.open[r.number] = r
	s.lookAt(r)
}

// refuse answers a request that is still open.
func (s *Site) refuse(r *request, e api.Errno) {
	if s.open[r.number] == nil {
		return
	}
	delete(s.open, r.number)
	s.send(api.Mail{Kind: api.MaNo, ID: r.mail.ID, E: e})
}

// lookAt looks at a request.
func (s *Site) lookAt(r *request) {
	l := &look{Site: s, request: r}
	for _, find := range []func() api.Errno{l.alive, l.findPolicy, l.findRule, l.permitted, l.serve} {
		e := find()
		if s.dead {
			e = api.ErrDead
		}
		if e != api.OK {
			s.refuse(r, e)
			return
		}
	}
}

// alive checks whether the site can serve at all, and finds the time.
func (l *look) alive() api.Errno {
	if l.dead {
		return api.ErrDead
	}
	now, e := l.now()
	if e != api.OK {
		return e
	}
	l.ask = l.mail.Ask
	l.ask.Site, l.ask.At = l.site, now
	if !cond.ValidAsk(l.ask) || len(l.mail.Headers) > maxHeaders || l.mail.Span.From < 0 || l.mail.Span.To < 0 {
		return api.ErrArg
	}
	if !lease.MayServe(l.held, now) {
		return api.ErrTime
	}
	return api.OK
}

func (l *look) findPolicy() api.Errno {
	p, known := l.policyOf(l.ask.Addr)
	if !known {
		return api.ErrName
	}
	l.policy = p
	return api.OK
}

// policyOf returns the policy of the customer of an address.
func (s *Site) policyOf(addr string) (api.Policy, bool) {
	customer := addr
	if i := strings.IndexAny(addr, "/?"); i >= 0 {
		customer = addr[:i]
	}
	for _, p := range s.policies {
		if p.Customer == customer {
			return p, true
		}
	}
	return api.Policy{}, false
}

// wanted returns the object that a rule makes of the request.
func (l *look) wanted(r api.Rule) object {
	return object{l.ask.Addr, variant.Key(r.Vary, l.mail.Headers)}
}

// findRule finds the rule, and the copy: which rule counts depends on the tags of a copy, and where the copy is on the rule.
func (l *look) findRule() api.Errno {
	rules := l.policy.Rules
	place := -1
	for _, k := range policy.Possible(rules, l.ask.Addr) {
		e, has := l.copyOf(l.wanted(rules[k]))
		if !has {
			continue
		}
		j := policy.Choose(rules, l.ask.Addr, e.Stamp.Tags)
		if j == k {
			l.rule, l.copy, l.has = rules[k], e, true
			return api.OK
		}
		if place < 0 {
			place = j
		}
	}
	if place < 0 {
		place = policy.Choose(rules, l.ask.Addr, "")
	}
	if place < 0 {
		return api.ErrName
	}
	l.rule = rules[place]
	return api.OK
}

// copyOf returns the copy of an object.
func (s *Site) copyOf(o object) (api.Entry, bool) {
	if s.come != nil && s.come.Stamp.Addr == o.addr && s.come.Stamp.Variant == o.variant {
		return *s.come, true
	}
	e, has := s.stored(o.name())
	if !has || seal.CheckStamp(s.ring, e.Stamp) != api.OK {
		return api.Entry{}, false
	}
	return e, true
}

// permitted checks what the rule, and a signed address, allow.
func (l *look) permitted() api.Errno {
	if !policy.Permits(l.rule, l.ask) {
		return api.ErrDenied
	}
	if !l.rule.Signed {
		return api.OK
	}
	t := l.mail.Token
	if !chain.Valid(t) {
		return api.ErrForm
	}
	if t.Customer != l.policy.Party {
		return api.ErrDenied
	}
	if e := chain.Check(l.ring, t, l.ask); e != api.OK {
		return e
	}
	if l.table.Revoked(chain.Identity(t)) {
		return api.ErrDenied
	}
	return api.OK
}

// serve gives the copy, or lets the request wait.
func (l *look) serve() api.Errno {
	state := api.CoFresh
	if l.has {
		state = l.table.State(l.copy.Stamp)
	}
	usable := func(mode int) bool {
		return l.has && policy.Usable(l.rule, l.copy.Stamp, l.ask.At, mode, state)
	}
	o := l.wanted(l.rule)
	switch {
	case usable(api.PoFresh):
		return l.give(api.PoFresh)
	case usable(api.PoStale) && (l.flying(o) || l.fetch(o, nobody)):
		return l.give(api.PoStale)
	case l.failed && usable(api.PoDown):
		return l.give(api.PoDown)
	case l.failed:
		return api.ErrOrigin
	case l.waited >= api.MaxWaits:
		return api.ErrState
	}
	l.waited++
	if !l.fetch(o, l.number) {
		return api.ErrLimit
	}
	return api.OK
}

// fetch lets somebody wait for an object, and begins a fetch, if none is under way.
func (s *Site) fetch(o object, who int) bool {
	known, _ := s.copyOf(o)
	joins, fetches, e := join.Ask(s.joins, o.name(), who, []api.Span{object0()})
	if s.dead || e != api.OK {
		return false
	}
	s.joins = joins
	for _, f := range fetches {
		s.fetches[f.ID] = o
		s.send(api.Mail{Kind: api.MaFetch, ID: f.ID, Stamp: api.Stamp{Addr: o.addr, Variant: o.variant}, Known: known.Stamp.Body})
	}
	return true
}

// give gives the copy.
func (l *look) give(mode int) api.Errno {
	if l.dead {
		return api.ErrDead
	}
	span := l.mail.Span
	if size := l.copy.Stamp.Size; span.To == 0 || span.To > size {
		span.To = size
	}
	if span.From > span.To {
		return api.ErrRange
	}
	used, e := l.spend()
	if e != api.OK {
		return e
	}
	bytes := l.copy.Bytes[span.From:span.To]
	r := api.Reply{
		Site: l.site, Seq: len(l.ledger.Replies), Ask: l.ask, Headers: l.mail.Headers,
		Policy: policy.Name(l.policy), Rule: copyRule(l.rule), Used: used, Stamp: l.copy.Stamp, Mode: mode,
		Span: span, Data: replylog.Data(bytes), Lease: l.held.Lease, Heard: len(l.epochs), Carrier: l.mail.Carrier,
	}
	if l.rule.Signed {
		r.Token = l.mail.Token
	}
	ledger, e := replylog.Append(l.ledger, r)
	if e != api.OK {
		return e
	}
	l.ledger = ledger
	delete(l.open, l.number)
	l.send(api.Mail{Kind: api.MaReply, ID: l.mail.ID, Reply: r, Bytes: bytes})
	return api.OK
}

// spend spends a use of the signed address, if they are counted.
func (l *look) spend() (int, api.Errno) {
	if !l.rule.Signed {
		return 0, api.OK
	}
	uses := chain.Uses(l.mail.Token)
	if uses == 0 {
		return 0, api.OK
	}
	id := chain.Identity(l.mail.Token)
	p, known := l.purses[id]
	if !known {
		return 0, api.ErrState
	}
	p, used, e := once.Spend(p)
	if e != api.OK {
		return 0, e
	}
	l.purses[id] = p
	if used > uses {
		return 0, api.ErrLimit
	}
	return used, api.OK
}
