// Package wire encodes numbers, texts and lists (layer 1, shared/doc/01-wire.md).
package wire

import "weirgate/api"

// maxDigits is how many digits of base 128 the greatest integer needs.
const maxDigits = 10

// Int returns the encoding of an integer.
func Int(n int) []byte { return appendInt(nil, n) }

// GetInt decodes an integer at the beginning of a byte sequence.
func GetInt(b []byte) (int, int, api.Errno) {
	var z uint64
	used := 0
collect:
	for {
		switch {
		case used == maxDigits:
			return 0, 0, api.ErrEncoding
		case used == len(b):
			return 0, 0, api.ErrTruncated
		case b[used] < 128:
			break collect
		}
		z |= uint64(b[used]-128) << (7 * used)
		used++
	}
	last := b[used]
	if used == maxDigits-1 && last > 1 || last == 0 && used > 0 {
		return 0, 0, api.ErrEncoding
	}
	z |= uint64(last) << (7 * used)
	return unfold(z), used + 1, api.OK
}

// Bytes returns the encoding of a byte string.
func Bytes(s string) []byte { return appendBytes(nil, s) }

// GetBytes decodes a byte string at the beginning of a byte sequence.
func GetBytes(b []byte) (string, int, api.Errno) {
	n, used, e := getLength(b, 1)
	if e != api.OK {
		return "", 0, e
	}
	return string(b[used : used+n]), used + n, api.OK
}

// Ints returns the encoding of a list of integers.
func Ints(l []int) []byte { return appendList(l, appendInt) }

// GetInts decodes a list of integers at the beginning of a byte sequence.
func GetInts(b []byte) ([]int, int, api.Errno) { return getList(b, 1, GetInt) }

// Strings returns the encoding of a list of byte strings.
func Strings(l []string) []byte { return appendList(l, appendBytes) }

// GetStrings decodes a list of byte strings at the beginning of a byte sequence.
func GetStrings(b []byte) ([]string, int, api.Errno) { return getList(b, 1, GetBytes) }

// Digests returns the encoding of a list of digests.
func Digests(l []api.Digest) []byte { return appendList(l, appendDigest) }

// GetDigests decodes a list of digests at the beginning of a byte sequence.
func GetDigests(b []byte) ([]api.Digest, int, api.Errno) {
	return getList(b, api.DigestSize, getDigest)
}

// fold maps integers to natural numbers so that small ones stay small, whatever their sign.
func fold(n int) uint64 { return uint64(n)<<1 ^ uint64(n>>63) }

// unfold is the inverse of fold.
func unfold(z uint64) int { return int(z>>1) ^ -int(z&1) }

func appendInt(b []byte, n int) []byte {
	z := fold(n)
	for z >= 128 {
		b = append(b, byte(z)|128)
		z >>= 7
	}
	return append(b, byte(z))
}

func appendBytes(b []byte, s string) []byte { return append(appendInt(b, len(s)), s...) }

func appendDigest(b []byte, d api.Digest) []byte { return append(b, d[:]...) }

func appendList[T any](l []T, one func([]byte, T) []byte) []byte {
	b := Int(len(l))
	for _, x := range l {
		b = one(b, x)
	}
	return b
}

// getLength decodes a length, of elements that have at least size bytes each: all of them have to follow.
func getLength(b []byte, size int) (int, int, api.Errno) {
	n, used, e := GetInt(b)
	switch {
	case e != api.OK:
		return 0, 0, e
	case n < 0:
		return 0, 0, api.ErrEncoding
	case n > (len(b)-used)/size:
		return 0, 0, api.ErrTruncated
	}
	return n, used, api.OK
}

// getList decodes a list. The length is checked before anything is allocated for it.
func getList[T any](b []byte, size int, one func([]byte) (T, int, api.Errno)) ([]T, int, api.Errno) {
	n, used, e := getLength(b, size)
	if e != api.OK {
		return nil, 0, e
	}
	l := make([]T, 0, n)
	for range n {
		x, more, e := one(b[used:])
		if e != api.OK {
			return nil, 0, e
		}
		l = append(l, x)
		used += more
	}
	return l, used, api.OK
}

func getDigest(b []byte) (api.Digest, int, api.Errno) {
	if len(b) < api.DigestSize {
		return api.Digest{}, 0, api.ErrTruncated
	}
	return api.Digest(b[:api.DigestSize]), api.DigestSize, api.OK
}
