// Package repair finds damage, and makes it good (layer 37, shared/doc/37-repair.md).
package repair

import (
	"cmp"
	"iter"
	"slices"

	"weirgate/api"
	"weirgate/chunk"
	"weirgate/merkle"
	"weirgate/ranges"
)

// Valid reports whether a manifest is valid.
func Valid(m api.Manifest) bool {
	return m.Size >= 0 && m.Size <= api.MaxEntry && isBlock(m.Block) && Blocks(m) <= api.MaxBlocks
}

// Blocks returns how many blocks there are.
func Blocks(m api.Manifest) int {
	if !isBlock(m.Block) {
		return 0
	}
	return (m.Size + m.Block - 1) / m.Block
}

// Span returns the span of a block.
func Span(m api.Manifest, k int) api.Span {
	if k < 0 || k >= Blocks(m) {
		return api.Span{}
	}
	return api.Span{From: k * m.Block, To: min((k+1)*m.Block, m.Size)}
}

// Leaves returns the leaves of the blocks.
func Leaves(bytes string, block int) []api.Digest {
	var leaves []api.Digest
	for _, s := range blocks(api.Manifest{Size: len(bytes), Block: block}) {
		leaves = append(leaves, merkle.Leaf(bytes[s.From:s.To]))
	}
	return leaves
}

// Make returns the manifest of an object.
func Make(bytes string, block int) (api.Manifest, api.Errno) {
	m := api.Manifest{Size: len(bytes), Block: block}
	if !isBlock(block) {
		return api.Manifest{}, api.ErrArg
	}
	if !Valid(m) {
		return api.Manifest{}, api.ErrLimit
	}
	m.Root = merkle.Root(Leaves(bytes, block))
	return m, api.OK
}

// Proof returns the proof of a block.
func Proof(bytes string, block, k int) ([]api.Digest, api.Errno) {
	if _, e := Make(bytes, block); e != api.OK {
		return nil, e
	}
	return merkle.Inclusion(Leaves(bytes, block), k)
}

// Check checks a block.
func Check(m api.Manifest, k int, piece string, path []api.Digest) api.Errno {
	if k < 0 || k >= Blocks(m) {
		return api.ErrArg
	}
	s := Span(m, k)
	if len(piece) != s.To-s.From || !merkle.CheckInclusion(merkle.Leaf(piece), k, Blocks(m), path, m.Root) {
		return api.ErrSeal
	}
	return api.OK
}

// Damaged returns the bytes of blocks that are not what they should be.
func Damaged(m api.Manifest, leaves []api.Digest, bytes string, have []api.Span) ([]api.Span, api.Errno) {
	within := ranges.Valid(have) && (len(have) == 0 || have[len(have)-1].To <= m.Size)
	if len(leaves) != Blocks(m) || len(bytes) != m.Size || !within {
		return nil, api.ErrArg
	}
	if merkle.Root(leaves) != m.Root {
		return nil, api.ErrSeal
	}
	var damaged []api.Span
	for k, s := range blocks(m) {
		if ranges.Covers(have, s) && merkle.Leaf(bytes[s.From:s.To]) != leaves[k] {
			damaged = append(damaged, s)
		}
	}
	return ranges.Of(damaged...), api.OK
}

// Ask returns what to ask for.
func Ask(missing []api.Span, most int) ([]api.Span, api.Errno) {
	if !ranges.Valid(missing) || most < 1 {
		return nil, api.ErrArg
	}
	all := slices.Clone(missing)
	if len(all) <= most {
		return all, api.OK
	}
	// Gaps do not change when others are filled: so the shortest ones are filled at once.
	var gaps []api.Span
	for i, s := range all[1:] {
		gaps = append(gaps, api.Span{From: all[i].To, To: s.From})
	}
	slices.SortStableFunc(gaps, func(a, b api.Span) int { return cmp.Compare(a.To-a.From, b.To-b.From) })
	return ranges.Of(append(all, gaps[:len(all)-most]...)...), api.OK
}

// Scrub reads all chunks of a log.
func Scrub(l *chunk.Log) ([]api.Place, []api.Place, api.Errno) {
	var good, bad []api.Place
	for _, c := range l.List() {
		switch _, _, e := l.Read(c.At); e {
		case api.OK:
			good = append(good, c.At)
		case api.ErrRot, api.ErrSeal:
			bad = append(bad, c.At)
		default:
			return nil, nil, e
		}
	}
	return good, bad, api.OK
}

func isBlock(n int) bool { return n >= 1 && n <= api.MaxBlock }

// blocks yields the spans of all blocks.
func blocks(m api.Manifest) iter.Seq2[int, api.Span] {
	return func(yield func(int, api.Span) bool) {
		for k := range Blocks(m) {
			if !yield(k, Span(m, k)) {
				return
			}
		}
	}
}
