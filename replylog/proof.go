package replylog

import (
	"slices"

	"weirgate/api"
	"weirgate/merkle"
	"weirgate/seal"
)

func leaves(l []api.Reply) []api.Digest {
	d := make([]api.Digest, len(l))
	for i, r := range l {
		d[i] = Leaf(r)
	}
	return d
}

// Proof returns a reply with its proof.
func Proof(l api.Ledger, seq int, h api.Head) (api.Shown, api.Errno) {
	if !slices.Contains(l.Heads, h) {
		return api.Shown{}, api.ErrName
	}
	path, e := merkle.Inclusion(leaves(l.Replies[:h.Size]), seq)
	if e != api.OK {
		return api.Shown{}, e
	}
	return api.Shown{Reply: l.Replies[seq], Head: h, Path: path}, api.OK
}

// Consistency returns the proof that a head continues another one.
func Consistency(l api.Ledger, old, new api.Head) ([]api.Digest, api.Errno) {
	if !slices.Contains(l.Heads, old) || !slices.Contains(l.Heads, new) {
		return nil, api.ErrName
	}
	return merkle.Consistency(leaves(l.Replies[:new.Size]), old.Size)
}

// first returns the first error of a list.
func first(l ...api.Errno) api.Errno {
	for _, e := range l {
		if e != api.OK {
			return e
		}
	}
	return api.OK
}

// unless returns an error, unless something holds.
func unless(holds bool, e api.Errno) api.Errno {
	if holds {
		return api.OK
	}
	return e
}

// CheckShown checks a reply with its proof.
func CheckShown(ring []api.Key, s api.Shown) api.Errno {
	return first(
		unless(s.Reply.Site == s.Head.Site, api.ErrArg),
		seal.CheckHead(ring, s.Head),
		unless(merkle.CheckInclusion(Leaf(s.Reply), s.Reply.Seq, s.Head.Size, s.Path, s.Head.Root), api.ErrForm),
	)
}

// CheckHeads checks that a head continues another one.
func CheckHeads(ring []api.Key, old, new api.Head, path []api.Digest) api.Errno {
	return first(
		unless(old.Site == new.Site, api.ErrArg),
		seal.CheckHead(ring, old),
		seal.CheckHead(ring, new),
		unless(new.At.Hi >= old.At.Lo, api.ErrTime),
		unless(merkle.CheckConsistency(old.Size, new.Size, old.Root, new.Root, path), api.ErrForm),
	)
}

// Forked reports whether two heads tell two stories.
func Forked(ring []api.Key, a, b api.Head) bool {
	return a.Site == b.Site && a.Size == b.Size && a.Root != b.Root &&
		first(seal.CheckHead(ring, a), seal.CheckHead(ring, b)) == api.OK
}
