package replylog

import (
	"slices"

	"weirgate/api"
	"weirgate/clock"
	"weirgate/merkle"
	"weirgate/seal"
)

func isSite(n int) bool { return n >= 0 && n < api.MaxSites }

// New returns a ledger without replies.
func New(site int) (api.Ledger, api.Errno) {
	if !isSite(site) {
		return api.Ledger{}, api.ErrArg
	}
	return api.Ledger{Site: site}, api.OK
}

// Valid reports whether a ledger is valid.
func Valid(l api.Ledger) bool {
	if !isSite(l.Site) || len(l.Replies) > api.MaxReplies || !orderly(l) {
		return false
	}
	var tree api.Peaks
	heads := l.Heads
	for i := 0; ; i++ {
		for len(heads) > 0 && heads[0].Size == i {
			if root, _ := merkle.Top(tree); root != heads[0].Root {
				return false
			}
			heads = heads[1:]
		}
		if i == len(l.Replies) {
			break
		}
		if l.Replies[i].Site != l.Site || l.Replies[i].Seq != i {
			return false
		}
		tree, _ = merkle.Append(tree, Leaf(l.Replies[i]))
	}
	return tree.Size == l.Tree.Size && slices.Equal(tree.Tops, l.Tree.Tops)
}

// orderly reports whether the heads have sites, sizes and times as they must be.
func orderly(l api.Ledger) bool {
	for i, h := range l.Heads {
		if h.Site != l.Site || h.Size < 0 || h.Size > len(l.Replies) {
			return false
		}
		if i > 0 && (h.Size < l.Heads[i-1].Size || h.At.Lo < l.Heads[i-1].At.Lo) {
			return false
		}
	}
	return true
}

// copyOf returns a ledger with lists of its own.
func copyOf(l api.Ledger) api.Ledger {
	l.Replies, l.Tree.Tops, l.Heads = slices.Clone(l.Replies), slices.Clone(l.Tree.Tops), slices.Clone(l.Heads)
	return l
}

// Append returns a ledger with one more reply.
func Append(l api.Ledger, r api.Reply) (api.Ledger, api.Errno) {
	if r.Site != l.Site || r.Seq != len(l.Replies) {
		return copyOf(l), api.ErrArg
	}
	if len(l.Replies) >= api.MaxReplies {
		return copyOf(l), api.ErrLimit
	}
	tree, e := merkle.Append(l.Tree, Leaf(r))
	if e != api.OK {
		return copyOf(l), e
	}
	replies := append(make([]api.Reply, 0, len(l.Replies)+1), l.Replies...)
	replies = append(replies, r)
	return api.Ledger{Site: l.Site, Replies: replies, Tree: tree, Heads: slices.Clone(l.Heads)}, api.OK
}

// Seal returns a ledger with one more head, and this head.
func Seal(l api.Ledger, k api.Key, at api.Period) (api.Ledger, api.Head, api.Errno) {
	next := copyOf(l)
	if !seal.Valid(k) || k.Party != api.SiteParty+l.Site || !clock.Valid(at) {
		return next, api.Head{}, api.ErrArg
	}
	if n := len(l.Heads); n > 0 && at.Lo < l.Heads[n-1].At.Lo {
		return next, api.Head{}, api.ErrTime
	}
	root, e := merkle.Top(l.Tree)
	if e != api.OK {
		return next, api.Head{}, e
	}
	h := seal.SealHead(k, api.Head{Site: l.Site, Size: len(l.Replies), Root: root, At: at})
	next.Heads = append(next.Heads, h)
	return next, h, api.OK
}
