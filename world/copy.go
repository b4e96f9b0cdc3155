package world

import (
	"slices"

	"weirgate/api"
)

// The parts of a story share no memory.

func copyPolicies(l []api.Policy) []api.Policy {
	l = slices.Clone(l)
	for i, p := range l {
		l[i].Rules = slices.Clone(p.Rules)
		for k, r := range p.Rules {
			l[i].Rules[k] = copyRule(r)
		}
	}
	return l
}

func copyRule(r api.Rule) api.Rule {
	r.Tags, r.Vary, r.Allow = slices.Clone(r.Tags), slices.Clone(r.Vary), copyCond(r.Allow)
	for i, v := range r.Vary {
		r.Vary[i].Values = slices.Clone(v.Values)
	}
	return r
}

func copyCond(c api.Cond) api.Cond {
	c.Clients, c.Countries, c.Sites = slices.Clone(c.Clients), slices.Clone(c.Countries), slices.Clone(c.Sites)
	return c
}

func copyReply(r api.Reply) api.Reply {
	r.Headers, r.Rule, r.Token.Conds = slices.Clone(r.Headers), copyRule(r.Rule), slices.Clone(r.Token.Conds)
	for i, c := range r.Token.Conds {
		r.Token.Conds[i] = copyCond(c)
	}
	return r
}
