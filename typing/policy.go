package typing

import (
	"slices"
	"strconv"

	"weirgate/api"
)

// clauseKey is what only one clause of a rule, or of allow, may have.
type clauseKey struct {
	kind   int
	header string
}

func typedPolicy(p api.PPolicy, programs map[string]bool) api.Policy {
	typed := api.Policy{Customer: p.Name}
	names := map[string]bool{}
	for _, r := range p.Rules {
		once(names, r.Name, r.At)
		typed.Rules = append(typed.Rules, typedRule(p.Name, r, programs))
	}
	return typed
}

func typedRule(customer string, r api.PRule, programs map[string]bool) api.Rule {
	typed := api.Rule{Name: r.Name, Pattern: customer + "/**", Allow: always()}
	seen := map[clauseKey]bool{}
	for _, c := range r.Clauses {
		amount := checkClause(c, seen, programs)
		switch c.Kind {
		case api.PcPattern:
			typed.Pattern = c.Texts[0]
		case api.PcTags:
			typed.Tags = sorted(c.Texts)
		case api.PcFresh:
			typed.Fresh = amount
		case api.PcStale:
			typed.Stale = amount
		case api.PcDown:
			typed.Down = amount
		case api.PcNegative:
			typed.Negative = amount
		case api.PcCost:
			typed.Cost = amount
		case api.PcVary:
			typed.Vary = append(typed.Vary, api.Vary{Header: c.Name, Values: sorted(c.Texts), Default: c.Default})
		case api.PcAllow:
			typed.Allow = typedCond(c.Conds)
		case api.PcSigned:
			typed.Signed = true
		case api.PcProgram:
			typed.Program = c.Name
		}
	}
	return typed
}

// always returns the condition of a rule that says nothing of it.
func always() api.Cond { return api.Cond{To: api.MaxTime + 1} }

func typedCond(l []api.PClause) api.Cond {
	typed := always()
	seen := map[clauseKey]bool{}
	for _, c := range l {
		amount := checkClause(c, seen, nil)
		switch c.Kind {
		case api.PcPattern:
			typed.Pattern = c.Texts[0]
		case api.PcFrom:
			typed.From = amount
		case api.PcTo:
			typed.To = amount
		case api.PcClients:
			typed.Clients = sorted(c.Texts)
		case api.PcCountries:
			typed.Countries = sorted(c.Texts)
		case api.PcSites:
			typed.Sites = sorted(numbers(c.Texts))
		case api.PcUses:
			typed.Uses = amount
		}
	}
	return typed
}

// checkClause looks for the first error of a clause itself, and returns its amount, if it has one.
func checkClause(c api.PClause, seen map[clauseKey]bool, programs map[string]bool) int {
	key := clauseKey{kind: c.Kind}
	if c.Kind == api.PcVary {
		key.header = c.Name
	}
	once(seen, key, c.At)
	amount := 0
	if hasAmount(c.Kind) {
		n, e := Amount(c.Amount, c.Kind)
		if e != api.OK {
			fail(c.Amount.At, e)
		}
		amount = n
	}
	twins := hasTwins(c.Texts)
	if c.Kind == api.PcSites {
		sites := numbers(c.Texts)
		if slices.ContainsFunc(sites, func(n int) bool { return n >= api.MaxSites }) {
			fail(c.At, api.ErrLimit)
		}
		twins = hasTwins(sites)
	}
	switch {
	case twins:
		fail(c.At, api.ErrTwice)
	case c.Kind == api.PcVary && c.HasDefault && !slices.Contains(c.Texts, c.Default):
		fail(c.At, api.ErrName)
	case c.Kind == api.PcProgram && !programs[c.Name]:
		fail(c.At, api.ErrName)
	}
	return amount
}

func hasAmount(kind int) bool {
	switch kind {
	case api.PcFresh, api.PcStale, api.PcDown, api.PcNegative, api.PcCost, api.PcFrom, api.PcTo, api.PcUses:
		return true
	}
	return false
}

// numbers returns the numbers whose digits are given.
func numbers(l []string) []int {
	out := make([]int, len(l))
	for i, s := range l {
		out[i], _ = strconv.Atoi(s)
	}
	return out
}
