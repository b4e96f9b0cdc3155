package repair

import (
	"weirgate/api"
	"weirgate/origin"
)

// Diff returns a patch.
func Diff(old, new string, block int) (api.Patch, api.Errno) {
	if !isBlock(block) {
		return api.Patch{}, api.ErrArg
	}
	if len(old) > api.MaxEntry || len(new) > api.MaxEntry {
		return api.Patch{}, api.ErrLimit
	}
	p := api.Patch{Base: origin.Digest(old), Body: origin.Digest(new), Size: len(new)}
	places := placesOf(old, block)
	taken := 0 // from here on bytes are taken as they are
	for at := 0; at < len(new); {
		from, found := 0, false
		if at+block <= len(new) {
			from, found = places[new[at:at+block]]
		}
		if !found {
			at++
			continue
		}
		p.Ops = take(p.Ops, new[taken:at])
		p.Ops = repeat(p.Ops, api.PatchOp{From: from, To: from + block})
		at += block
		taken = at
	}
	p.Ops = take(p.Ops, new[taken:])
	return p, api.OK
}

// Apply applies a patch.
func Apply(old string, p api.Patch) (string, api.Errno) {
	if origin.Digest(old) != p.Base {
		return "", api.ErrSeal
	}
	var made []byte
	for _, op := range p.Ops {
		copies := op.From >= 0 && op.From < op.To && op.To <= len(old)
		switch {
		case op.Bytes != "" && op.From == 0 && op.To == 0:
			made = append(made, op.Bytes...)
		case op.Bytes == "" && copies:
			made = append(made, old[op.From:op.To]...)
		default:
			return "", api.ErrForm
		}
		if len(made) > api.MaxEntry {
			return "", api.ErrForm
		}
	}
	if len(made) != p.Size {
		return "", api.ErrForm
	}
	if origin.Digest(string(made)) != p.Body {
		return "", api.ErrSeal
	}
	return string(made), api.OK
}

// Weight returns how many bytes a patch bears.
func Weight(p api.Patch) int {
	n := 0
	for _, op := range p.Ops {
		n += len(op.Bytes)
	}
	return n
}

// placesOf returns where the full blocks of an object begin, by their bytes: of the same ones the first.
func placesOf(bytes string, block int) map[string]int {
	places := map[string]int{}
	for _, s := range blocks(api.Manifest{Size: len(bytes), Block: block}) {
		b := bytes[s.From:s.To]
		if _, known := places[b]; !known && len(b) == block {
			places[b] = s.From
		}
	}
	return places
}

// take adds bytes that are taken as they are, if there are any.
func take(ops []api.PatchOp, bytes string) []api.PatchOp {
	if bytes == "" {
		return ops
	}
	return append(ops, api.PatchOp{Bytes: bytes})
}

// repeat adds a copy; one that begins where the one before it ends makes that longer.
func repeat(ops []api.PatchOp, op api.PatchOp) []api.PatchOp {
	if last := len(ops) - 1; last >= 0 && ops[last].Bytes == "" && ops[last].To == op.From {
		ops[last].To = op.To
		return ops
	}
	return append(ops, op)
}
