package hash_test

import (
	"bytes"
	"crypto/sha256"
	"encoding/hex"
	"math"
	"math/rand"
	"testing"

	"weirgate/api"
	"weirgate/hash"
	"weirgate/wire"
)

const all40 = 1<<40 - 1

// slowCrc goes bit by bit, as the chapter says it.
func slowCrc(b []byte) int {
	register := uint64(all40)
	for _, c := range b {
		for k := 7; k >= 0; k-- {
			f := uint64(c)>>k&1 ^ register>>39
			register = register << 1 & all40
			if f == 1 {
				register ^= 0x0004820009
			}
		}
	}
	return int(register ^ all40)
}

func randomBytes(r *rand.Rand, n int) []byte {
	b := make([]byte, n)
	r.Read(b)
	return b
}

func TestCrc(t *testing.T) {
	for i, x := range []struct {
		b    []byte
		want int
	}{{nil, 0}, {[]byte{255}, 255}, {[]byte{255, 255}, 65535}, {[]byte{254}, 0x00048200f6}} {
		if c := hash.Crc40(x.b); c != x.want {
			t.Errorf("P2.1: case %d: %x", i, c)
		}
	}
	r := rand.New(rand.NewSource(1))
	for n := range 300 {
		b := randomBytes(r, n)
		want := slowCrc(b)
		if c := hash.Crc40(b); c != want || c < 0 || c > all40 {
			t.Fatalf("P2.1: %d bytes: %x, want %x", n, c, want)
		}
		one := r.Intn(n + 1)
		two := one + r.Intn(n-one+1)
		c := hash.BeginCrc().Add(string(b[:one]))
		c.Add("something else")
		if v := c.Add(string(b[one:two])).Add("").Add(string(b[two:])).Value(); v != want {
			t.Fatalf("P2.1, P2.9: %d bytes in pieces: %x, want %x", n, v, want)
		}
		if v := c.Value(); v != hash.Crc40(b[:one]) {
			t.Fatal("P2.1: Add has changed what it was called for")
		}
	}
}

func TestWords(t *testing.T) {
	if hash.Words([]int{all40}) != all40 || hash.Words([]int{all40 - 1}) != 0xfffb7dfff6 || hash.Words(nil) != 0 {
		t.Error("P2.2: the examples")
	}
	for _, l := range [][]int{{0}, {1, 2, 3}, {-1, math.MinInt, math.MaxInt}, {1 << 40, 0x123456789a, -0x123456789a}} {
		var b []byte
		for _, n := range l {
			for k := 4; k >= 0; k-- {
				b = append(b, byte(n>>(8*k)))
			}
		}
		if hash.Words(l) != slowCrc(b) {
			t.Error("P2.2:", l)
		}
	}
}

func TestJoin(t *testing.T) {
	for i, x := range [][4]int{{255, 255, 1, 65535}, {255, 0, 1, 65280}, {7, 9, 0, 14}, {1, 1, -1, 0}, {1, 1, math.MinInt, 0}, {-1, 0, 0, all40}, {0, -1, 3, all40}, {1 << 40, 1 << 41, 9, 0}} {
		if c := hash.Join(x[0], x[1], x[2]); c != x[3] {
			t.Errorf("P2.3: case %d: %x", i, c)
		}
	}
	r := rand.New(rand.NewSource(2))
	for range 300 {
		a, b, c := randomBytes(r, r.Intn(40)), randomBytes(r, r.Intn(40)), randomBytes(r, r.Intn(40))
		x, y, z := hash.Crc40(a), hash.Crc40(b), hash.Crc40(c)
		if hash.Join(x, y, len(b)) != slowCrc(append(bytes.Clone(a), b...)) {
			t.Fatal("P2.3: two messages")
		}
		if hash.Join(hash.Join(x, y, len(b)), z, len(c)) != hash.Join(x, hash.Join(y, z, len(c)), len(b)+len(c)) {
			t.Fatal("P2.8: three messages")
		}
		n, m := int(r.Uint64()>>2), int(r.Uint64()>>2)
		if hash.Join(hash.Join(x, 0, n), 0, m) != hash.Join(x, 0, n+m) {
			t.Fatal("P2.8: far shifts")
		}
		if hash.Join(x, y, n) != hash.Join(x|1<<50, y-1<<45, n) {
			t.Fatal("P2.3: bits above 40 count")
		}
	}
}

func TestLinearAndBursts(t *testing.T) {
	r := rand.New(rand.NewSource(3))
	for range 300 {
		n := 6 + r.Intn(60)
		a, b, c, sum := randomBytes(r, n), randomBytes(r, n), randomBytes(r, n), make([]byte, n)
		for i := range sum {
			sum[i] = a[i] ^ b[i] ^ c[i]
		}
		if hash.Crc40(sum) != hash.Crc40(a)^hash.Crc40(b)^hash.Crc40(c) {
			t.Fatal("P2.6")
		}
		first := r.Intn(8*n - 40)
		other := bytes.Clone(a)
		for bit := first; bit < first+40; bit++ {
			if bit == first || r.Intn(2) == 0 {
				other[bit/8] ^= 128 >> (bit % 8)
			}
		}
		if hash.Crc40(other) == hash.Crc40(a) {
			t.Fatal("P2.7")
		}
	}
}

func TestSum(t *testing.T) {
	r := rand.New(rand.NewSource(4))
	for n := range 300 {
		b := randomBytes(r, n)
		want := sha256.Sum256(b)
		if hash.Sum(b) != want {
			t.Fatalf("P2.4: %d bytes", n)
		}
		one := r.Intn(n + 1)
		s := hash.Begin().Add(string(b[:one]))
		before := s.Sum()
		s.Add("something else that is longer than what is in a block, so that the block is full and is compressed")
		if s.Add("").Add(string(b[one:])).Sum() != want {
			t.Fatalf("P2.4, P2.9: %d bytes in pieces", n)
		}
		if s.Sum() != before || before != sha256.Sum256(b[:one]) {
			t.Fatal("P2.4: a stream has changed")
		}
	}
	long := bytes.Repeat([]byte("weirgate"), 1<<17)
	if hash.Sum(long) != sha256.Sum256(long) {
		t.Error("P2.4: a long message")
	}
	empty, abc := hash.Sum(nil), hash.Sum([]byte("abc"))
	if h := hex.EncodeToString(empty[:]); h[:8] != "e3b0c442" || h[56:] != "7852b855" {
		t.Error("P2.4: no bytes:", h)
	}
	if h := hex.EncodeToString(abc[:]); h[:8] != "ba7816bf" || h[56:] != "f20015ad" {
		t.Error("P2.4: abc:", h)
	}
}

func TestOf(t *testing.T) {
	d := hash.Of(1)
	if hex.EncodeToString(d[:]) != "4bf5122f344554c53bde2ebb8cd2b7e3" {
		t.Error("P2.5: the example")
	}
	long := string(make([]byte, 9000))
	for _, tag := range []int{0, 1, 255, 256, 257, -1, -256, math.MinInt, math.MaxInt} {
		for _, parts := range [][]string{{}, {""}, {"", ""}, {"a", "bc"}, {"ab", "c"}, {long, "x"}} {
			b := []byte{byte(((tag % 256) + 256) % 256)}
			for _, p := range parts {
				b = append(b, wire.Bytes(p)...)
			}
			sum := sha256.Sum256(b)
			if hash.Of(tag, parts...) != api.Digest(sum[:api.DigestSize]) {
				t.Errorf("P2.5: tag %d, %d parts", tag, len(parts))
			}
		}
	}
	seen := map[api.Digest]bool{}
	for tag := range 256 {
		for _, parts := range [][]string{{}, {""}, {"", ""}, {"a", "b"}, {"ab"}, {"ab", ""}, {"", "ab"}} {
			d := hash.Of(tag, parts...)
			if seen[d] {
				t.Fatal("P2.9: two inputs of Of are the same")
			}
			seen[d] = true
		}
	}
}

func TestArgumentsStay(t *testing.T) {
	b, l := []byte("abc"), []int{1, -2}
	hash.Crc40(b)
	hash.Sum(b)
	hash.Words(l)
	if string(b) != "abc" || l[0] != 1 || l[1] != -2 {
		t.Error("arguments were modified")
	}
}

func BenchmarkSum(b *testing.B) {
	x := make([]byte, 1<<16)
	b.SetBytes(1 << 16)
	for b.Loop() {
		hash.Sum(x)
	}
}

func BenchmarkOf(b *testing.B) {
	for b.Loop() {
		hash.Of(31, "0123456789abcdef", "0123456789abcdef")
	}
}
