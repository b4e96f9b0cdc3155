package seal

import (
	"slices"

	"weirgate/api"
	"weirgate/wire"
)

// StampParts returns the parts of a stamp.
func StampParts(x api.Stamp) []string {
	return list(x.Addr, x.Variant, numbers(x.Status, x.Size, x.At.Lo, x.At.Hi, x.Gate, x.Serial), string(x.Body[:]), x.Tags)
}

// EpochParts returns the parts of an epoch.
func EpochParts(x api.Epoch) []string {
	l := list(numbers(x.Num, x.At.Lo, x.At.Hi, x.Serial, len(x.Purges)), string(x.Prev[:]))
	for _, p := range x.Purges {
		soft := 0
		if p.Soft {
			soft = 1
		}
		l = append(l, numbers(p.Kind, soft), p.What)
	}
	for _, d := range x.Revoked {
		l = append(l, string(d[:]))
	}
	return l
}

// LeaseParts returns the parts of a lease.
func LeaseParts(x api.Lease) []string {
	return list(numbers(x.Site, x.Epoch, x.Until, x.Serial))
}

// HeadParts returns the parts of a head.
func HeadParts(x api.Head) []string {
	return list(numbers(x.Site, x.Size, x.At.Lo, x.At.Hi, x.Serial), string(x.Root[:]))
}

// SealStamp seals a stamp.
func SealStamp(k api.Key, x api.Stamp) api.Stamp {
	x.Gate, x.Serial = k.Party, k.Serial
	x.Seal = Make(k, api.TagStamp, StampParts(x)...)
	return x
}

// SealEpoch seals an epoch.
func SealEpoch(k api.Key, x api.Epoch) api.Epoch {
	x.Purges, x.Revoked = slices.Clone(x.Purges), slices.Clone(x.Revoked)
	x.Serial = k.Serial
	x.Seal = Make(k, api.TagEpoch, EpochParts(x)...)
	return x
}

// SealLease seals a lease.
func SealLease(k api.Key, x api.Lease) api.Lease {
	x.Serial = k.Serial
	x.Seal = Make(k, api.TagLease, LeaseParts(x)...)
	return x
}

// SealHead seals a head.
func SealHead(k api.Key, x api.Head) api.Head {
	x.Serial = k.Serial
	x.Seal = Make(k, api.TagHead, HeadParts(x)...)
	return x
}

// CheckStamp checks a stamp.
func CheckStamp(ring []api.Key, x api.Stamp) api.Errno {
	return check(ring, x, StampParts, claim{x.Gate, x.Serial, api.TagStamp, x.Seal, x.At})
}

// CheckEpoch checks an epoch.
func CheckEpoch(ring []api.Key, x api.Epoch) api.Errno {
	return check(ring, x, EpochParts, claim{api.Authority, x.Serial, api.TagEpoch, x.Seal, x.At})
}

// CheckLease checks a lease.
func CheckLease(ring []api.Key, x api.Lease) api.Errno {
	if !isSite(x.Site) {
		return api.ErrArg
	}
	last := api.Period{Lo: x.Until - 1, Hi: x.Until - 1}
	return check(ring, x, LeaseParts, claim{api.Authority, x.Serial, api.TagLease, x.Seal, last})
}

// CheckHead checks a head.
func CheckHead(ring []api.Key, x api.Head) api.Errno {
	if !isSite(x.Site) {
		return api.ErrArg
	}
	return check(ring, x, HeadParts, claim{api.SiteParty + x.Site, x.Serial, api.TagHead, x.Seal, x.At})
}

// claim is what a record says of its seal.
type claim struct {
	party, serial, tag int
	seal               api.Seal
	at                 api.Period
}

func check[T any](ring []api.Key, x T, parts func(T) []string, c claim) api.Errno {
	return Check(ring, c.party, c.serial, c.tag, parts(x), c.seal, c.at)
}

func isSite(n int) bool { return n >= 0 && n < api.MaxSites }

// list collects parts.
func list(parts ...string) []string { return parts }

// numbers returns the part that stands for integers.
func numbers(l ...int) string { return string(wire.Ints(l)) }
