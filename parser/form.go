package parser

import "weirgate/api"

// all reports whether something is true for all elements.
func all[T any](l []T, ok func(T) bool) bool {
	for _, x := range l {
		if !ok(x) {
			return false
		}
	}
	return true
}

func isSource(x api.PSource) bool {
	return all(x.Policies, func(p api.PPolicy) bool {
		return all(p.Rules, func(r api.PRule) bool { return all(r.Clauses, isClause) })
	}) && all(x.Programs, func(p api.PProgram) bool {
		return all(p.Effects, func(e int) bool { return e > 0 && e < len(effects) }) && all(p.Code, isStmt)
	})
}

// isClause reports whether a clause of a rule is well-formed. What names, numbers and texts may be is the lexer's concern.
func isClause(c api.PClause) bool {
	if c.Kind == api.PcAllow {
		return all(c.Conds, isCond) && isNamed(c, false, 0, 0, false)
	}
	if len(c.Conds) > 0 {
		return false
	}
	switch c.Kind {
	case api.PcPattern:
		return isNamed(c, false, 1, 1, false)
	case api.PcTags:
		return isNamed(c, false, 1, len(c.Texts), false)
	case api.PcFresh, api.PcStale, api.PcDown, api.PcNegative, api.PcCost:
		return isNamed(c, false, 0, 0, true)
	case api.PcVary:
		plain := c
		plain.Default, plain.HasDefault = "", false
		return (c.HasDefault || c.Default == "") && isNamed(plain, true, 1, len(c.Texts), false)
	case api.PcSigned:
		return isNamed(c, false, 0, 0, false)
	case api.PcProgram:
		return isNamed(c, true, 0, 0, false)
	}
	return false
}

// isCond reports whether a clause of allow is well-formed.
func isCond(c api.PClause) bool {
	if len(c.Conds) > 0 {
		return false
	}
	switch c.Kind {
	case api.PcPattern:
		return isNamed(c, false, 1, 1, false)
	case api.PcFrom, api.PcTo:
		return isNamed(c, false, 0, 0, true)
	case api.PcClients, api.PcCountries, api.PcSites:
		return isNamed(c, false, 1, len(c.Texts), false)
	case api.PcUses:
		return isNamed(c, false, 0, 0, true) && c.Amount.Unit == ""
	}
	return false
}

// isNamed reports whether a clause without a default has a name, an amount, and at least and at most so many texts, as it must; what it must not have is zero.
func isNamed(c api.PClause, name bool, least, most int, amount bool) bool {
	if !name && c.Name != "" || !amount && (c.Amount.Number != "" || c.Amount.Unit != "") {
		return false
	}
	return len(c.Texts) >= least && len(c.Texts) <= most && c.Default == "" && !c.HasDefault
}

func isStmt(s api.PStmt) bool {
	if !isExpr(s.X) || !all(s.Body, isStmt) || !all(s.Else, isStmt) {
		return false
	}
	named := s.Kind == api.PsLet || s.Kind == api.PsSet || s.Kind == api.PsHeader
	body := s.Kind == api.PsIf || s.Kind == api.PsRepeat
	if !named && s.Name != "" || !body && len(s.Body) > 0 || s.Kind != api.PsIf && len(s.Else) > 0 {
		return false
	}
	return s.Kind >= api.PsLet && s.Kind <= api.PsReply && (s.Kind != api.PsRepeat || s.X.Op == api.PxNumber)
}

func isExpr(x api.PExpr) bool {
	least, most, text := 0, 0, false
	switch {
	case x.Op == api.PxNumber || x.Op == api.PxText || x.Op == api.PxName || x.Op == api.PxHeader:
		text = true
	case x.Op == api.PxTrue || x.Op == api.PxFalse || x.Op == api.PxStatus:
	case x.Op == api.PxNeg || x.Op == api.PxNot:
		least, most = 1, 1
	case x.Op >= api.PxAdd && x.Op <= api.PxOr:
		least, most = 2, 2
	case x.Op == api.PxIn:
		least, most = 2, len(x.Args)
	default:
		return false
	}
	return (text || x.S == "") && len(x.Args) >= least && len(x.Args) <= most && all(x.Args, isExpr)
}
