package chunk

import (
	"weirgate/api"
	"weirgate/hash"
	"weirgate/wire"
)

// How a segment is written: its first sector is its head; then there are the slots.
//
// A head has a digest, and the greatest number that a chunk had when the segment was emptied: chunks of the segment with lesser numbers, or this one, are gone. All this is in the first half of the sector, so that a torn head is the new one; zeros are the head of a segment that was never emptied. A head that cannot be read hides all chunks. It is overwritten only if it cannot be read, or if greater numbers stand in slots: so the greatest number of all is never lost.
//
// A slot has a digest, the number of the chunk, the lengths of key and bytes, and both of these. Before slots are used again, their first sectors are filled with zeros: no rest of an old chunk can be made whole by parts of a new one.

// Tags of digests.
const (
	tagSlot = 140
	tagHead = 141
)

const (
	sectorSize  = len(api.Sector{})
	slotSectors = (api.SegSectors - 1) / api.SegChunks
	numberSize  = 8
	frontSize   = api.DigestSize + numberSize + 1 + 2 // bytes of a slot before the key
)

// slot is what stands in a slot.
type slot struct {
	seq       int
	key, data string
}

// headAt returns the sector that is the head of a segment.
func headAt(seg int) int { return seg * api.SegSectors }

// slotAt returns the first sector of a slot.
func slotAt(seg, n int) int { return headAt(seg) + 1 + n*slotSectors }

// headSector returns the head of a segment that was emptied when a number was the greatest one.
func headSector(seg, last int) api.Sector {
	d := hash.Of(tagHead, string(wire.Ints([]int{seg, last})))
	var s api.Sector
	copy(s[:], putNumber(d[:], last))
	return s
}

// readHead returns the number in the head of a segment, if a sector is one.
func readHead(s api.Sector, seg int) (int, bool) {
	if s == (api.Sector{}) {
		return 0, true
	}
	last := number(s[api.DigestSize:])
	return last, s == headSector(seg, last)
}

// sectors returns the sectors of a slot at its place.
func (x slot) sectors(seg, n int) []api.Sector {
	d := x.digest(seg, n)
	b := putNumber(d[:], x.seq)
	b = append(b, byte(len(x.key)), byte(len(x.data)>>8), byte(len(x.data)))
	b = append(append(b, x.key...), x.data...)
	var l []api.Sector
	for from := 0; from < len(b); from += sectorSize {
		var s api.Sector
		to := min(from+sectorSize, len(b))
		copy(s[:], b[from:to:to])
		l = append(l, s)
	}
	return l
}

func (x slot) digest(seg, n int) api.Digest {
	return hash.Of(tagSlot, string(wire.Ints([]int{seg, n, x.seq})), x.key, x.data)
}

// readSlot reads a slot at its place, with a function that reads a sector; it panics with an error if the slot is not whole.
func readSlot(seg, n int, sector func(i int) api.Sector) slot {
	at := slotAt(seg, n)
	first := sector(at)
	x := slot{seq: number(first[api.DigestSize:])}
	lengths := first[frontSize-3 : frontSize : frontSize]
	keyEnd := frontSize + int(lengths[0])
	end := keyEnd + int(lengths[1])<<8 + int(lengths[2])
	if keyEnd-frontSize > api.MaxChunkKey || end-keyEnd > api.MaxChunk || x.seq < 1 {
		panic(api.ErrSeal)
	}
	b := first[:]
	for i := 1; len(b) < end; i++ {
		s := sector(at + i)
		b = append(b, s[:]...)
	}
	x.key, x.data = string(b[frontSize:keyEnd]), string(b[keyEnd:end])
	if x.digest(seg, n) != api.Digest(b[:api.DigestSize]) {
		panic(api.ErrSeal)
	}
	return x
}

// putNumber appends a number, the most significant byte first.
func putNumber(b []byte, n int) []byte {
	for i := numberSize - 1; i >= 0; i-- {
		b = append(b, byte(n>>(8*i)))
	}
	return b
}

func number(b []byte) int {
	n := 0
	for _, c := range b[:numberSize] {
		n = n<<8 | int(c)
	}
	return n
}
