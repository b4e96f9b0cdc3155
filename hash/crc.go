// Package hash computes checks of 40 bits, SHA-256 hashes and digests (layer 2, shared/doc/02-hash.md).
package hash

const (
	crcBits = 40
	crcMask = 1<<crcBits - 1
	crcPoly = 0x0004820009 // x^40 + x^26 + x^23 + x^17 + x^3 + 1 without its leading term
)

// crcSteps has, for each four bits, by what they change the register when they have been shifted out of it.
var crcSteps = [16]uint64{
	0x0000000000, 0x0004820009, 0x0009040012, 0x000d86001b,
	0x0012080024, 0x00168a002d, 0x001b0c0036, 0x001f8e003f,
	0x0024100048, 0x0020920041, 0x002d14005a, 0x0029960053,
	0x003618006c, 0x00329a0065, 0x003f1c007e, 0x003b9e0077,
}

// Crc is a message whose check is computed piece by piece.
type Crc struct{ register uint64 }

// BeginCrc returns a Crc whose message is empty.
func BeginCrc() Crc { return Crc{crcMask} }

// Add returns a Crc with a longer message.
func (c Crc) Add(text string) Crc { return Crc{shiftIn(c.register, text)} }

// Value returns the check of the message.
func (c Crc) Value() int { return int(c.register ^ crcMask) }

// Crc40 returns the check of b.
func Crc40(b []byte) int { return Crc{shiftIn(crcMask, b)}.Value() }

// Words returns the check of a list of words.
func Words(l []int) int {
	r := uint64(crcMask)
	for _, n := range l {
		r = shiftIn(r, []byte{byte(n >> 32), byte(n >> 24), byte(n >> 16), byte(n >> 8), byte(n)})
	}
	return Crc{r}.Value()
}

// Join returns the check of two consecutive messages.
func Join(a, b, n int) int {
	if n < 0 {
		return 0
	}
	r := uint64(a) & crcMask
	// The factor goes through x^8, x^16, x^32, ..: those that n is made of are multiplied.
	for factor := uint64(1 << 8); n > 0; n >>= 1 {
		if n&1 == 1 {
			r = multiply(r, factor)
		}
		factor = multiply(factor, factor)
	}
	return int(r ^ uint64(b)&crcMask)
}

func shiftIn[T string | []byte](r uint64, text T) uint64 {
	for i := range len(text) {
		c := uint64(text[i])
		r = r<<4&crcMask ^ crcSteps[r>>(crcBits-4)^c>>4]
		r = r<<4&crcMask ^ crcSteps[r>>(crcBits-4)^c&15]
	}
	return r
}

// multiply returns the product of two polynomials modulo that of the check.
func multiply(a, b uint64) uint64 {
	var r uint64
	for ; b != 0; b >>= 1 {
		if b&1 == 1 {
			r ^= a
		}
		a <<= 1
		if a > crcMask {
			a = a&crcMask ^ crcPoly
		}
	}
	return r
}
