package site

import (
	"maps"
	"slices"

	"weirgate/account"
	"weirgate/api"
	"weirgate/clock"
	"weirgate/entry"
	"weirgate/epoch"
	"weirgate/join"
	"weirgate/lease"
	"weirgate/once"
	"weirgate/replylog"
	"weirgate/seal"
)

const (
	maxPurses = 1000
	maxSpans  = 1000 // of a letter
)

// Take takes a mail, and returns mails.
func (s *Site) Take(m api.Mail, local int) []api.Mail {
	take, known := map[int]func(m api.Mail){
		api.MaAsk:      s.ask,
		api.MaGot:      s.got,
		api.MaEpochs:   s.hear,
		api.MaLease:    s.lease,
		api.MaTime:     s.time,
		api.MaUses:     s.uses,
		api.MaPolicies: s.replace,
		api.MaSeal:     s.seal,
	}[m.Kind]
	if !known {
		return nil
	}
	s.local, s.out = local, nil
	s.notice()
	if !s.dead || m.Kind == api.MaAsk {
		take(m)
	}
	out := s.out
	s.out = nil
	return out
}

func (s *Site) send(m api.Mail) { s.out = append(s.out, m) }

// now returns the time.
func (s *Site) now() (api.Period, api.Errno) { return clock.Read(s.clock, s.local) }

// notice notices that the disk has failed: then the site is dead.
func (s *Site) notice() {
	if s.dead || !s.disk.Down() {
		return
	}
	s.dead = true
	for _, number := range slices.Sorted(maps.Keys(s.open)) {
		s.refuse(s.open[number], api.ErrDead)
	}
}

func (s *Site) time(m api.Mail) {
	if c, e := clock.Sync(s.clock, s.local, m.At); e == api.OK {
		s.clock = c
	}
}

func (s *Site) replace(m api.Mail) {
	if rightPolicies(m.Policies) {
		s.policies = copyPolicies(m.Policies)
	}
}

func (s *Site) lease(m api.Mail) {
	if h, e := lease.Take(s.ring, s.held, m.Lease); e == api.OK {
		s.held = h
	}
}

// hear applies epochs, and confirms the last one of all.
func (s *Site) hear(m api.Mail) {
	before := len(s.epochs)
	for _, e := range m.Epochs {
		if e.Num <= len(s.epochs) {
			continue
		}
		l, why := epoch.Append(s.ring, s.epochs, e)
		if why != api.OK {
			break
		}
		s.epochs = l
	}
	if len(s.epochs) > before {
		s.table = epoch.Fold(s.epochs)
		s.held, _ = lease.Hear(s.held, len(s.epochs))
		s.store.Apply(s.table)
		s.notice()
	}
	s.confirm()
}

func (s *Site) confirm() {
	now, e := s.now()
	if s.dead || e != api.OK || len(s.epochs) == 0 {
		return
	}
	c, e := account.Confirm(s.key, s.site, s.epochs[len(s.epochs)-1], now)
	if e == api.OK {
		s.send(api.Mail{Kind: api.MaConfirm, Confirm: c})
	}
}

func (s *Site) uses(m api.Mail) {
	if len(m.Uses.Uses) > maxSpans {
		return
	}
	p, known := s.purses[m.Uses.ID]
	if !known {
		p, _ = once.New(m.Uses.ID, party(s.site), 0)
	}
	p, letters := once.Hear(p, m.Uses)
	if !known && (len(p.Heard) == 0 || len(s.purses) >= maxPurses) {
		return
	}
	s.purses[m.Uses.ID] = p
	for _, l := range letters {
		s.send(api.Mail{Kind: api.MaUses, Uses: l})
	}
}

func (s *Site) seal(api.Mail) {
	now, e := s.now()
	if e != api.OK {
		return
	}
	l, h, e := replylog.Seal(s.ledger, s.key, now)
	if e == api.OK {
		s.ledger = l
		s.send(api.Mail{Kind: api.MaHead, Head: h})
	}
}

// got takes what has come for a fetch, and looks at the requests that waited for it.
func (s *Site) got(m api.Mail) {
	o, known := s.fetches[m.ID]
	if !known {
		return
	}
	delete(s.fetches, m.ID)
	e, whole := s.received(o, m)
	var waited []int
	if whole {
		s.joins, waited, _, _ = join.Come(s.joins, o.name(), m.ID, []api.Span{object0()})
		s.keep(e)
		s.come = &e
	} else {
		s.joins, waited, _, _ = join.Fail(s.joins, o.name(), m.ID)
	}
	for _, number := range waited {
		// The number -1 is nobody's, and a site that has died has answered all requests.
		if r := s.open[number]; r != nil {
			r.failed = !whole
			s.lookAt(r)
		}
	}
	s.come = nil
}

// object0 is the span that stands for a whole object in fetches.
func object0() api.Span { return api.Span{From: 0, To: 1} }

// received returns the copy that has come for an object; false if the fetch has failed.
func (s *Site) received(o object, m api.Mail) (api.Entry, bool) {
	if m.Failed || seal.CheckStamp(s.ring, m.Stamp) != api.OK || m.Stamp.Addr != o.addr || m.Stamp.Variant != o.variant {
		return api.Entry{}, false
	}
	e, why := entry.Begin(m.Stamp)
	if why != api.OK || s.table.State(m.Stamp) == api.CoRemoved {
		return api.Entry{}, false
	}
	if e.Whole {
		return e, true
	}
	bytes := m.Bytes
	if bytes == "" {
		old, has := s.stored(o.name())
		if has && old.Stamp.Body == m.Stamp.Body && old.Stamp.Size == m.Stamp.Size {
			bytes = old.Bytes
		}
	}
	e, _ = entry.Put(e, 0, bytes)
	return e, e.Whole
}

// stored returns the whole entry of the store with a name.
func (s *Site) stored(name string) (api.Entry, bool) {
	e, why := s.store.Get(name)
	s.notice()
	return e, why == api.OK && e.Whole
}

// keep puts a copy into the store, if there is room for it.
func (s *Site) keep(e api.Entry) {
	p, known := s.policyOf(e.Stamp.Addr)
	if !known {
		return
	}
	now, _ := s.now() // the zero period, if it cannot be read
	s.store.Put(p.Party, e, now.Lo)
	s.notice()
}
