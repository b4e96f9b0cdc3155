package verify

import (
	"weirgate/api"
	"weirgate/merkle"
	"weirgate/seal"
	"weirgate/wire"
)

// Leaf returns the leaf of a reply.
func Leaf(r api.Reply) api.Digest {
	token := []string{ints(r.Token.Customer, r.Token.Serial), r.Token.ID, string(r.Token.Seal[:])}
	for _, c := range r.Token.Conds {
		token = join(token, condTexts(c))
	}
	parts := join(
		[]string{ints(r.Site, r.Seq, r.Mode, r.Span.From, r.Span.To, r.Heard, r.Carrier, r.Used, len(r.Headers), len(r.Token.Conds), len(r.Rule.Tags), len(r.Rule.Vary))},
		[]string{string(r.Data[:]), string(r.Policy[:])},
		[]string{r.Ask.Addr, r.Ask.Client, r.Ask.Country, ints(r.Ask.Site, r.Ask.At.Lo, r.Ask.At.Hi)},
		headerTexts(r.Headers),
		token,
		ruleTexts(r.Rule),
		seal.StampParts(r.Stamp), []string{string(r.Stamp.Seal[:])},
		seal.LeaseParts(r.Lease), []string{string(r.Lease.Seal[:])},
	)
	return merkle.Leaf(string(wire.Strings(parts)))
}

// join returns all texts of some lists.
func join(lists ...[]string) []string {
	var all []string
	for _, l := range lists {
		all = append(all, l...)
	}
	return all
}

func ints(l ...int) string { return string(wire.Ints(l)) }

func texts(l []string) string { return string(wire.Strings(l)) }

func headerTexts(l []api.Header) []string {
	var all []string
	for _, h := range l {
		all = append(all, h.Name, h.Value)
	}
	return all
}

func condTexts(c api.Cond) []string {
	return []string{ints(c.From, c.To, c.Uses), c.Pattern, texts(c.Clients), texts(c.Countries), ints(c.Sites...)}
}

func ruleTexts(r api.Rule) []string {
	signed := 0
	if r.Signed {
		signed = 1
	}
	numbers := ints(r.Fresh, r.Stale, r.Down, r.Negative, signed, r.Cost)
	var vary []string
	for _, v := range r.Vary {
		vary = append(vary, v.Header, v.Default, texts(v.Values))
	}
	return join([]string{r.Name, r.Pattern, r.Program, numbers}, r.Tags, vary, condTexts(r.Allow))
}
