package site

import (
	"cmp"

	"weirgate/api"
	"weirgate/clock"
	"weirgate/policy"
	"weirgate/quota"
	"weirgate/seal"
	"weirgate/sketch"
	"weirgate/variant"
)

const maxPolicies = 100

// isRight reports whether a configuration is right.
func isRight(c api.SiteConfig) bool {
	return c.Site >= 0 && c.Site < api.MaxSites && seal.Valid(c.Key) && c.Key.Party == api.SiteParty+c.Site &&
		isRing(c.Ring) && rightPolicies(c.Policies) && quota.Accounts(c.Accounts) && quota.Total(c.Accounts) == 0 &&
		sketch.Valid(c.Sketch) && clock.Check(c.Clock) == api.OK
}

func isRing(l []api.Key) bool {
	for i, k := range l {
		if !seal.Valid(k) || i > 0 && order(l[i-1], k) >= 0 {
			return false
		}
	}
	return len(l) <= api.MaxRing
}

func order(a, b api.Key) int {
	return cmp.Or(cmp.Compare(a.Party, b.Party), cmp.Compare(a.Serial, b.Serial))
}

// rightPolicies reports whether policies are right.
func rightPolicies(l []api.Policy) bool {
	before := map[string]bool{}
	for _, p := range l {
		if policy.Check(p) != api.OK || before[p.Customer] {
			return false
		}
		for _, r := range p.Rules {
			if variant.Check(r.Vary) != api.OK {
				return false
			}
		}
		before[p.Customer] = true
	}
	return len(l) <= maxPolicies
}
