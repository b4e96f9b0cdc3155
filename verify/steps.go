package verify

import (
	"slices"

	"weirgate/api"
	"weirgate/chain"
	"weirgate/clock"
	"weirgate/cond"
	"weirgate/hash"
	"weirgate/merkle"
	"weirgate/policy"
	"weirgate/seal"
	"weirgate/variant"
)

// tagBody is the tag of the digests of what origins answer.
const tagBody = 34

// reader reads evidence.
type reader struct {
	x     api.Evidence
	reply api.Reply
}

func read(x api.Evidence) reader { return reader{x: x, reply: x.Shown.Reply} }

// steps returns what checks each step.
func (r reader) steps() map[int]func() api.Errno {
	return map[int]func() api.Errno{
		api.VsLog:     r.log,
		api.VsForm:    r.form,
		api.VsStamp:   r.stamp,
		api.VsAddress: r.address,
		api.VsPolicy:  r.policy,
		api.VsEpochs:  r.epochs,
		api.VsPurge:   r.purge,
		api.VsAge:     r.age,
		api.VsLease:   r.lease,
		api.VsAllow:   r.allow,
		api.VsToken:   r.token,
		api.VsUse:     r.use,
		api.VsBytes:   r.bytes,
		api.VsBody:    r.body,
	}
}

func (r reader) log() api.Errno {
	head := r.x.Shown.Head
	if r.reply.Site != head.Site {
		return api.ErrArg
	}
	if e := seal.CheckHead(r.x.Ring, head); e != api.OK {
		return e
	}
	if !merkle.CheckInclusion(Leaf(r.reply), r.reply.Seq, head.Size, r.x.Shown.Path, head.Root) {
		return api.ErrForm
	}
	return api.OK
}

func (r reader) form() api.Errno {
	y := r.reply
	if !cond.ValidAsk(y.Ask) || y.Ask.Site != y.Site || y.Mode < api.PoFresh || y.Mode > api.PoDown || y.Heard < 0 || y.Heard > api.MaxEpochs {
		return api.ErrForm
	}
	if !clock.Valid(y.Stamp.At) || y.Span.From < 0 || y.Span.From > y.Span.To || y.Span.To > y.Stamp.Size {
		return api.ErrForm
	}
	return api.OK
}

func (r reader) stamp() api.Errno { return seal.CheckStamp(r.x.Ring, r.reply.Stamp) }

func (r reader) address() api.Errno {
	if r.reply.Stamp.Addr != r.reply.Ask.Addr {
		return api.ErrName
	}
	vary := r.reply.Rule.Vary
	if variant.Check(vary) != api.OK || variant.Key(vary, r.reply.Headers) != r.reply.Stamp.Variant {
		return api.ErrForm
	}
	return api.OK
}

// theirs returns the policy of the reply, if there is one.
func (r reader) theirs() (api.Policy, bool) {
	for _, p := range r.x.Policies {
		if policy.Check(p) == api.OK && policy.Name(p) == r.reply.Policy {
			return p, true
		}
	}
	return api.Policy{}, false
}

func (r reader) policy() api.Errno {
	p, known := r.theirs()
	if !known {
		return api.ErrName
	}
	i := policy.Choose(p.Rules, r.reply.Stamp.Addr, r.reply.Stamp.Tags)
	if i < 0 || !sameRule(p.Rules[i], r.reply.Rule) {
		return api.ErrRule
	}
	return api.OK
}

// sameRule compares the fields of two rules; only the empty list of fields that are lists has two forms.
func sameRule(a, b api.Rule) bool {
	sameVary := func(v, w api.Vary) bool {
		return v.Header == w.Header && v.Default == w.Default && slices.Equal(v.Values, w.Values)
	}
	return a.Name == b.Name && a.Pattern == b.Pattern && a.Program == b.Program && slices.Equal(a.Tags, b.Tags) &&
		a.Fresh == b.Fresh && a.Stale == b.Stale && a.Down == b.Down && a.Negative == b.Negative &&
		a.Signed == b.Signed && a.Cost == b.Cost && slices.EqualFunc(a.Vary, b.Vary, sameVary) && sameCond(a.Allow, b.Allow)
}

func sameCond(a, b api.Cond) bool {
	return a.From == b.From && a.To == b.To && a.Uses == b.Uses && a.Pattern == b.Pattern &&
		slices.Equal(a.Clients, b.Clients) && slices.Equal(a.Countries, b.Countries) && slices.Equal(a.Sites, b.Sites)
}

func (r reader) epochs() api.Errno {
	if r.lacks() {
		return api.ErrArg
	}
	_, why := r.refused()
	return why
}

func (r reader) purge() api.Errno {
	if r.lacks() {
		return api.ErrArg
	}
	if r.purged() == api.CoRemoved {
		return api.ErrState
	}
	return api.OK
}

func (r reader) age() api.Errno {
	if r.lacks() {
		return api.ErrArg
	}
	if !policy.Valid(r.reply.Rule) {
		return api.ErrRule
	}
	if !policy.Usable(r.reply.Rule, r.reply.Stamp, r.reply.Ask.At, r.reply.Mode, r.purged()) {
		return api.ErrTime
	}
	return api.OK
}

func (r reader) lease() api.Errno {
	l := r.reply.Lease
	if l.Site != r.reply.Site {
		return api.ErrArg
	}
	if e := seal.CheckLease(r.x.Ring, l); e != api.OK {
		return e
	}
	if l.Epoch > r.reply.Heard {
		return api.ErrState
	}
	if r.reply.Ask.At.Hi >= l.Until {
		return api.ErrTime
	}
	return api.OK
}

func (r reader) allow() api.Errno {
	if !policy.Valid(r.reply.Rule) {
		return api.ErrRule
	}
	if !policy.Permits(r.reply.Rule, r.reply.Ask) {
		return api.ErrDenied
	}
	return api.OK
}

func (r reader) token() api.Errno {
	if !r.reply.Rule.Signed {
		return api.OK
	}
	t := r.reply.Token
	if !chain.Valid(t) {
		return api.ErrForm
	}
	p, known := r.theirs()
	if !known {
		return api.ErrName
	}
	if t.Customer != p.Party {
		return api.ErrOwner
	}
	if e := chain.Check(r.x.Ring, t, r.reply.Ask); e != api.OK {
		return e
	}
	if r.lacks() {
		return api.ErrArg
	}
	if r.revoked(chain.Identity(t)) {
		return api.ErrState
	}
	return api.OK
}

func (r reader) use() api.Errno {
	least, most := 0, 0
	if r.reply.Rule.Signed && chain.Valid(r.reply.Token) {
		if uses := chain.Uses(r.reply.Token); uses != 0 {
			least, most = 1, uses
		}
	}
	if r.reply.Used < least || r.reply.Used > most {
		return api.ErrLimit
	}
	return api.OK
}

func (r reader) bytes() api.Errno {
	if !r.x.Has {
		return api.OK
	}
	s := r.reply.Span
	if s.From < 0 || s.To < s.From || len(r.x.Bytes) != s.To-s.From {
		return api.ErrArg
	}
	if r.reply.Data != hash.Of(api.TagData, r.x.Bytes) {
		return api.ErrSeal
	}
	return api.OK
}

func (r reader) body() api.Errno {
	whole := api.Span{To: r.reply.Stamp.Size}
	if !r.x.Has || r.reply.Span != whole || r.reply.Stamp.Body == hash.Of(tagBody, r.x.Bytes) {
		return api.OK
	}
	return api.ErrSeal
}
