package hash

import (
	"math/bits"

	"weirgate/api"
	"weirgate/wire"
)

const (
	blockSize  = 64
	lengthSize = 8 // bytes of the length at the end of the last block
)

// rounds are the constants k(0) to k(63).
var rounds = [64]uint32{
	0x428a2f98, 0x71374491, 0xb5c0fbcf, 0xe9b5dba5, 0x3956c25b, 0x59f111f1, 0x923f82a4, 0xab1c5ed5,
	0xd807aa98, 0x12835b01, 0x243185be, 0x550c7dc3, 0x72be5d74, 0x80deb1fe, 0x9bdc06a7, 0xc19bf174,
	0xe49b69c1, 0xefbe4786, 0x0fc19dc6, 0x240ca1cc, 0x2de92c6f, 0x4a7484aa, 0x5cb0a9dc, 0x76f988da,
	0x983e5152, 0xa831c66d, 0xb00327c8, 0xbf597fc7, 0xc6e00bf3, 0xd5a79147, 0x06ca6351, 0x14292967,
	0x27b70a85, 0x2e1b2138, 0x4d2c6dfc, 0x53380d13, 0x650a7354, 0x766a0abb, 0x81c2c92e, 0x92722c85,
	0xa2bfe8a1, 0xa81a664b, 0xc24b8b70, 0xc76c51a3, 0xd192e819, 0xd6990624, 0xf40e3585, 0x106aa070,
	0x19a4c116, 0x1e376c08, 0x2748774c, 0x34b0bcb5, 0x391c0cb3, 0x4ed8aa4a, 0x5b9cca4f, 0x682e6ff3,
	0x748f82ee, 0x78a5636f, 0x84c87814, 0x8cc70208, 0x90befffa, 0xa4506ceb, 0xbef9a3f7, 0xc67178f2,
}

// Stream is a message that is hashed piece by piece.
type Stream struct {
	state [8]uint32       // after all full blocks
	rest  [blockSize]byte // the bytes behind these
	size  uint64          // bytes of the message
}

// Begin returns a stream whose message is empty.
func Begin() Stream {
	return Stream{state: [8]uint32{
		0x6a09e667, 0xbb67ae85, 0x3c6ef372, 0xa54ff53a,
		0x510e527f, 0x9b05688c, 0x1f83d9ab, 0x5be0cd19,
	}}
}

// Add returns a stream with a longer message.
func (s Stream) Add(text string) Stream { return feed(s, text) }

// Sum returns the hash of the message.
func (s Stream) Sum() [32]byte {
	used := s.size % blockSize
	s.rest[used] = 128
	clear(s.rest[used+1:])
	if used+1 > blockSize-lengthSize {
		s.state = compress(s.state, s.rest)
		s.rest = [blockSize]byte{}
	}
	for i := range lengthSize {
		s.rest[blockSize-1-i] = byte(s.size * 8 >> (8 * i))
	}
	var sum [32]byte
	for i, w := range compress(s.state, s.rest) {
		sum[4*i], sum[4*i+1], sum[4*i+2], sum[4*i+3] = byte(w>>24), byte(w>>16), byte(w>>8), byte(w)
	}
	return sum
}

// Sum returns the SHA-256 hash of b.
func Sum(b []byte) [32]byte { return feed(Begin(), b).Sum() }

// Of returns a digest of parts with a domain separation tag.
func Of(tag int, parts ...string) api.Digest {
	s := feed(Begin(), []byte{byte(tag)})
	for _, p := range parts {
		// wire.Bytes of a part is its length and its bytes: they need not be put together first.
		s = feed(feed(s, wire.Int(len(p))), p)
	}
	sum := s.Sum()
	return api.Digest(sum[:api.DigestSize])
}

func feed[T string | []byte](s Stream, text T) Stream {
	used := int(s.size % blockSize)
	s.size += uint64(len(text))
	for len(text) > 0 {
		n := copy(s.rest[used:], text)
		text = text[n:]
		used += n
		if used == blockSize {
			s.state = compress(s.state, s.rest)
			used = 0
		}
	}
	return s
}

// compress returns the hash value after one more block.
func compress(state [8]uint32, block [blockSize]byte) [8]uint32 {
	w := schedule(block)
	a, b, c, d, e, f, g, h := state[0], state[1], state[2], state[3], state[4], state[5], state[6], state[7]
	for t, k := range rounds {
		x := h + (bits.RotateLeft32(e, -6) ^ bits.RotateLeft32(e, -11) ^ bits.RotateLeft32(e, -25)) + (e&f ^ ^e&g) + k + w[t]
		y := (bits.RotateLeft32(a, -2) ^ bits.RotateLeft32(a, -13) ^ bits.RotateLeft32(a, -22)) + (a&b ^ a&c ^ b&c)
		h, g, f, e, d, c, b, a = g, f, e, d+x, c, b, a, x+y
	}
	return [8]uint32{state[0] + a, state[1] + b, state[2] + c, state[3] + d, state[4] + e, state[5] + f, state[6] + g, state[7] + h}
}

// schedule returns the words w(0) to w(63) of a block.
func schedule(block [blockSize]byte) [64]uint32 {
	var w [64]uint32
	for t := range 16 {
		w[t] = uint32(block[4*t])<<24 | uint32(block[4*t+1])<<16 | uint32(block[4*t+2])<<8 | uint32(block[4*t+3])
	}
	for t := 16; t < 64; t++ {
		p, q := w[t-15], w[t-2]
		s0 := bits.RotateLeft32(p, -7) ^ bits.RotateLeft32(p, -18) ^ p>>3
		s1 := bits.RotateLeft32(q, -17) ^ bits.RotateLeft32(q, -19) ^ q>>10
		w[t] = w[t-16] + s0 + w[t-7] + s1
	}
	return w
}
