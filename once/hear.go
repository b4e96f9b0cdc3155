package once

import (
	"weirgate/api"
	"weirgate/ranges"
)

// hearing is what a letter of a kind does to a purse for which it is.
type hearing struct {
	kind int
	hear func(p api.Purse, l api.UseLetter) (api.Purse, []api.UseLetter)
}

func hearings() []hearing {
	return []hearing{{api.UlGift, hearGift}, {api.UlAck, hearAck}}
}

// Hear returns the purse after a letter, and answers.
func Hear(p api.Purse, l api.UseLetter) (api.Purse, []api.UseLetter) {
	if l.ID != p.ID || l.To != p.Me || !isParty(l.From) || l.From == p.Me || l.Serial < 1 || l.Serial > api.MaxSerial {
		return p, nil
	}
	for _, h := range hearings() {
		if h.kind == l.Kind {
			return h.hear(p, l)
		}
	}
	return p, nil
}

// hearGift takes a gift that is the next one of its sender; those that were heard are confirmed again.
func hearGift(p api.Purse, l api.UseLetter) (api.Purse, []api.UseLetter) {
	if len(l.Uses) == 0 || !areUses(l.Uses) {
		return p, nil
	}
	mark := markOf(p.Heard, l.From)
	if l.Serial > mark+1 {
		return p, nil
	}
	if l.Serial == mark+1 {
		left := ranges.Of(append(ranges.Of(p.Left...), l.Uses...)...)
		if len(left) > maxSpans || len(ranges.Meet(p.Left, l.Uses)) > 0 || len(ranges.Meet(p.Spent, l.Uses)) > 0 {
			return p, nil
		}
		mark++
		p.Left = left
		p.Heard = withMark(p.Heard, l.From, mark)
	}
	return p, []api.UseLetter{{ID: p.ID, Kind: api.UlAck, From: p.Me, To: l.From, Serial: mark}}
}

// hearAck forgets the gifts that a party has confirmed.
func hearAck(p api.Purse, l api.UseLetter) (api.Purse, []api.UseLetter) {
	if len(l.Uses) > 0 || l.Serial > markOf(p.Sent, l.From) {
		return p, nil
	}
	p.Out = keep(p.Out, func(g api.Gift) bool { return g.To != l.From || g.Serial > l.Serial })
	return p, nil
}
