package join

import (
	"weirgate/api"
	"weirgate/ranges"
)

// Valid reports whether joins are valid.
func Valid(j api.Joins) bool {
	if j.Last < 0 || j.Last > maxID || len(j.L) > api.MaxMisses {
		return false
	}
	ids := map[int]bool{}
	for i, m := range j.L {
		if len(m.Key) > api.MaxText || i > 0 && m.Key <= j.L[i-1].Key || !areWaiters(m) || !areFetches(m) {
			return false
		}
		for _, f := range m.Flying {
			if f.ID < 1 || f.ID > j.Last || ids[f.ID] {
				return false
			}
			ids[f.ID] = true
		}
	}
	return true
}

func areWaiters(m api.Miss) bool {
	for k, w := range m.Waiting {
		if len(w.Need) == 0 || !ranges.Valid(w.Need) || k > 0 && w.ID <= m.Waiting[k-1].ID {
			return false
		}
	}
	return len(m.Waiting) >= 1 && len(m.Waiting) <= api.MaxWaiting
}

// areFetches reports whether the fetches of a miss, whose waiters are right, are right: in order, apart, and what somebody needs.
func areFetches(m api.Miss) bool {
	wanted := needed(m)
	end := 0
	for _, f := range m.Flying {
		good := ranges.Valid([]api.Span{f.Span}) && f.Span.From >= end
		if !good || len(ranges.Meet(wanted, []api.Span{f.Span})) == 0 {
			return false
		}
		end = f.Span.To
	}
	return len(ranges.Minus(wanted, flying(m))) == 0
}
