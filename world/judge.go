package world

import (
	"slices"

	"weirgate/api"
	"weirgate/bill"
	"weirgate/chain"
	"weirgate/epoch"
	"weirgate/origin"
	"weirgate/policy"
	"weirgate/replylog"
	"weirgate/verify"
)

// Judge returns the number of the first promise that a story breaks.
func Judge(s api.Scene, st api.Story) int {
	promises := []func(s api.Scene, st api.Story) bool{fresh, permitted, purged, load, ledger, verified}
	for i, holds := range promises {
		if !holds(s, st) {
			return i + 1
		}
	}
	return 0
}

// given is a reply with the instant at which it was given.
type given struct {
	at    int
	reply api.Reply
}

func repliesOf(st api.Story) []given {
	var l []given
	for _, a := range st.Answers {
		if a.Mail.Kind == api.MaReply {
			l = append(l, given{a.At, a.Mail.Reply})
		}
	}
	return l
}

// fresh reports whether each reply was what the origin had at an instant that its rule allows.
func fresh(s api.Scene, st api.Story) bool {
	for _, g := range repliesOf(st) {
		x := g.reply.Stamp
		most := policy.MaxAge(g.reply.Rule, x.Status, g.reply.Mode)
		x.At = api.Period{Lo: max(0, g.at-most), Hi: g.at}
		if !origin.True(Content(s, x.Addr, x.Variant), x) {
			return false
		}
	}
	return true
}

// permitted reports whether each reply was permitted, and no use was spent twice.
func permitted(_ api.Scene, st api.Story) bool {
	type use struct {
		id api.Digest
		n  int
	}
	spent := map[use]bool{}
	for _, g := range repliesOf(st) {
		ask := g.reply.Ask
		ask.At = api.Period{Lo: g.at, Hi: g.at}
		if !policy.Permits(g.reply.Rule, ask) {
			return false
		}
		if !g.reply.Rule.Signed {
			continue
		}
		if chain.Check(st.Ring, g.reply.Token, ask) != api.OK {
			return false
		}
		u := use{chain.Identity(g.reply.Token), g.reply.Used}
		if u.n > 0 && spent[u] {
			return false
		}
		spent[u] = true
	}
	return true
}

// purged reports whether no reply was given that an epoch had removed, from its deadline on.
func purged(_ api.Scene, st api.Story) bool {
	for _, g := range repliesOf(st) {
		for i, e := range st.Epochs {
			if i < len(st.Deadlines) && g.at >= st.Deadlines[i] && epoch.Removes(e, g.reply.Stamp) == api.CoRemoved {
				return false
			}
		}
	}
	return true
}

// load reports whether the origin got no more requests than it can take.
func load(s api.Scene, st api.Story) bool {
	sent := map[int]int{}
	for _, at := range st.Sent {
		sent[at/s.Window]++
		if sent[at/s.Window] > s.Cap {
			return false
		}
	}
	return true
}

// ledger reports whether the logs have all replies, and the bill is theirs.
func ledger(_ api.Scene, st api.Story) bool {
	for _, g := range repliesOf(st) {
		n := g.reply.Site
		if n < 0 || n >= len(st.Ledgers) {
			return false
		}
		log := st.Ledgers[n].Replies
		if g.reply.Seq < 0 || g.reply.Seq >= len(log) || !sameReply(log[g.reply.Seq], g.reply) {
			return false
		}
	}
	var all []api.Reply
	for _, l := range st.Ledgers {
		all = append(all, l.Replies...)
	}
	posts, e := bill.Of(all)
	return e == api.OK && slices.Equal(posts, st.Bill)
}

// sameReply compares replies by their texts, which are different for different replies.
func sameReply(a, b api.Reply) bool { return slices.Equal(replylog.Parts(a), replylog.Parts(b)) }

// verified reports whether the verifier accepts all replies of the logs, which are sealed as a whole.
func verified(_ api.Scene, st api.Story) bool {
	for _, l := range st.Ledgers {
		if len(l.Heads) == 0 {
			return false
		}
		head := l.Heads[len(l.Heads)-1]
		if head.Size != len(l.Replies) {
			return false
		}
		for i := range l.Replies {
			shown, e := replylog.Proof(l, i, head)
			x := api.Evidence{Ring: st.Ring, Policies: st.Policies, Epochs: st.Epochs, Shown: shown}
			if e != api.OK || verify.Verify(x) != (api.Finding{}) {
				return false
			}
		}
	}
	return true
}
