package entry

import (
	"bytes"
	"cmp"

	"weirgate/api"
)

// Better reports whether a stamp is better than another one.
func Better(a, b api.Stamp) bool {
	return first(
		cmp.Compare(a.At.Lo, b.At.Lo), cmp.Compare(a.At.Hi, b.At.Hi),
		bytes.Compare(a.Body[:], b.Body[:]), cmp.Compare(a.Size, b.Size), cmp.Compare(a.Status, b.Status),
		cmp.Compare(a.Tags, b.Tags), cmp.Compare(a.Gate, b.Gate), cmp.Compare(a.Serial, b.Serial),
		bytes.Compare(a.Seal[:], b.Seal[:]),
	) > 0
}

// first returns the first comparison that tells something.
func first(comparisons ...int) int { return cmp.Or(comparisons...) }
