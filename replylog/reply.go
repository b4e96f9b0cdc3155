// Package replylog (layer 44) keeps the log of replies of a site. See shared/doc/44-replylog.md.
package replylog

import (
	"weirgate/api"
	"weirgate/hash"
	"weirgate/merkle"
	"weirgate/seal"
	"weirgate/wire"
)

// Data returns the digest of bytes of a reply.
func Data(bytes string) api.Digest { return hash.Of(api.TagData, bytes) }

// Leaf returns the digest of a reply.
func Leaf(r api.Reply) api.Digest { return merkle.Leaf(string(wire.Strings(Parts(r)))) }

// texts is a list of texts that grows.
type texts struct{ l []string }

func (t *texts) add(parts ...string) { t.l = append(t.l, parts...) }

func numbers(l ...int) string { return string(wire.Ints(l)) }

func list(l []string) string { return string(wire.Strings(l)) }

// Parts returns the texts that stand for a reply.
func Parts(r api.Reply) []string {
	var t texts
	add := t.add
	add(numbers(r.Site, r.Seq, r.Mode, r.Span.From, r.Span.To, r.Heard, r.Carrier, r.Used, len(r.Headers), len(r.Token.Conds), len(r.Rule.Tags), len(r.Rule.Vary)))
	add(string(r.Data[:]), string(r.Policy[:]))
	add(r.Ask.Addr, r.Ask.Client, r.Ask.Country, numbers(r.Ask.Site, r.Ask.At.Lo, r.Ask.At.Hi))
	for _, h := range r.Headers {
		add(h.Name, h.Value)
	}
	addToken(add, r.Token)
	addRule(add, r.Rule)
	add(seal.StampParts(r.Stamp)...)
	add(string(r.Stamp.Seal[:]))
	add(seal.LeaseParts(r.Lease)...)
	add(string(r.Lease.Seal[:]))
	return t.l
}

func addToken(add func(parts ...string), k api.Token) {
	add(numbers(k.Customer, k.Serial), k.ID, string(k.Seal[:]))
	for _, c := range k.Conds {
		addCond(add, c)
	}
}

func addRule(add func(parts ...string), r api.Rule) {
	signed := 0
	if r.Signed {
		signed = 1
	}
	add(r.Name, r.Pattern, r.Program, numbers(r.Fresh, r.Stale, r.Down, r.Negative, signed, r.Cost))
	add(r.Tags...)
	for _, v := range r.Vary {
		add(v.Header, v.Default, list(v.Values))
	}
	addCond(add, r.Allow)
}

func addCond(add func(parts ...string), c api.Cond) {
	add(numbers(c.From, c.To, c.Uses), c.Pattern, list(c.Clients), list(c.Countries), numbers(c.Sites...))
}
