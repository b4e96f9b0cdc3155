package site

import (
	"slices"

	"weirgate/api"
)

// What is given to a site, or by it, is copied, so that nobody can change what the site has.

func copyLedger(l api.Ledger) api.Ledger {
	l.Replies, l.Tree.Tops, l.Heads = slices.Clone(l.Replies), slices.Clone(l.Tree.Tops), slices.Clone(l.Heads)
	return l
}

func copyEpochs(l []api.Epoch) []api.Epoch {
	l = slices.Clone(l)
	for i, e := range l {
		l[i].Purges, l[i].Revoked = slices.Clone(e.Purges), slices.Clone(e.Revoked)
	}
	return l
}

func copyPolicies(l []api.Policy) []api.Policy {
	l = slices.Clone(l)
	for i, p := range l {
		l[i].Rules = slices.Clone(p.Rules)
		for k, r := range p.Rules {
			l[i].Rules[k] = copyRule(r)
		}
	}
	return l
}

func copyRule(r api.Rule) api.Rule {
	r.Tags, r.Vary, r.Allow = slices.Clone(r.Tags), slices.Clone(r.Vary), copyCond(r.Allow)
	for i, v := range r.Vary {
		r.Vary[i].Values = slices.Clone(v.Values)
	}
	return r
}

func copyCond(c api.Cond) api.Cond {
	c.Clients, c.Countries, c.Sites = slices.Clone(c.Clients), slices.Clone(c.Countries), slices.Clone(c.Sites)
	return c
}

func copyToken(t api.Token) api.Token {
	t.Conds = slices.Clone(t.Conds)
	for i, c := range t.Conds {
		t.Conds[i] = copyCond(c)
	}
	return t
}

func copyPurse(p api.Purse) api.Purse {
	p.Left, p.Spent, p.Sent, p.Heard, p.Out = slices.Clone(p.Left), slices.Clone(p.Spent), slices.Clone(p.Sent), slices.Clone(p.Heard), slices.Clone(p.Out)
	for i, g := range p.Out {
		p.Out[i].Uses = slices.Clone(g.Uses)
	}
	return p
}
