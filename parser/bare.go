package parser

import "weirgate/api"

// Bare returns a tree without offsets.
func Bare(x api.PSource) api.PSource {
	return api.PSource{Policies: each(x.Policies, barePolicy), Programs: each(x.Programs, bareProgram)}
}

// each returns a list of what is made of each element.
func each[T any](l []T, make func(T) T) []T {
	var out []T
	for _, x := range l {
		out = append(out, make(x))
	}
	return out
}

func same[T any](x T) T { return x }

func barePolicy(p api.PPolicy) api.PPolicy {
	p.At = 0
	p.Rules = each(p.Rules, bareRule)
	return p
}

func bareRule(r api.PRule) api.PRule {
	r.At = 0
	r.Clauses = each(r.Clauses, bareClause)
	return r
}

func bareClause(c api.PClause) api.PClause {
	c.At, c.Amount.At = 0, 0
	c.Texts = each(c.Texts, same)
	c.Conds = each(c.Conds, bareClause)
	return c
}

func bareProgram(p api.PProgram) api.PProgram {
	p.At = 0
	p.Effects = each(p.Effects, same)
	p.Code = each(p.Code, bareStmt)
	return p
}

func bareStmt(s api.PStmt) api.PStmt {
	s.At = 0
	s.X = bareExpr(s.X)
	s.Body, s.Else = each(s.Body, bareStmt), each(s.Else, bareStmt)
	return s
}

func bareExpr(x api.PExpr) api.PExpr {
	x.At = 0
	x.Args = each(x.Args, bareExpr)
	return x
}
