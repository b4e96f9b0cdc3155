package once

import (
	"weirgate/api"
	"weirgate/ranges"
)

// Check returns ErrArg if a purse is not right.
func Check(p api.Purse) api.Errno {
	if !isParty(p.Me) || !areUses(p.Left) || !areUses(p.Spent) || len(ranges.Meet(p.Left, p.Spent)) > 0 ||
		!areMarks(p.Sent, p.Me) || !areMarks(p.Heard, p.Me) || !areGifts(p) {
		return api.ErrArg
	}
	return api.OK
}

// areUses reports whether spans are a set of uses.
func areUses(l []api.Span) bool {
	return ranges.Valid(l) && len(l) <= maxSpans && (len(l) == 0 || l[0].From >= 1 && l[len(l)-1].To <= api.MaxUses+1)
}

// areMarks reports whether marks are right for a purse of a party.
func areMarks(l []api.Mark, me int) bool {
	last := -1
	for _, m := range l {
		if !isParty(m.Party) || m.Party == me || m.Party <= last || m.N < 1 || m.N > api.MaxSerial {
			return false
		}
		last = m.Party
	}
	return true
}

// areGifts reports whether the gifts of a purse, whose marks are right, are right: going backwards, those to one party have the serial numbers from its mark down.
func areGifts(p api.Purse) bool {
	if len(p.Out) > api.MaxGifts {
		return false
	}
	var seen [api.MaxParties]int
	for i := len(p.Out) - 1; i >= 0; i-- {
		g := p.Out[i]
		if !isParty(g.To) || len(g.Uses) == 0 || !areUses(g.Uses) || g.Serial < 1 || g.Serial != markOf(p.Sent, g.To)-seen[g.To] {
			return false
		}
		seen[g.To]++
	}
	return true
}
