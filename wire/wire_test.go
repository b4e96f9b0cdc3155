package wire_test

import (
	"bytes"
	"math"
	"math/big"
	"math/rand"
	"slices"
	"strings"
	"testing"

	"weirgate/api"
	"weirgate/wire"
)

// plain encodes an integer as P1.1 says it, with integers of unlimited size.
func plain(n int) []byte {
	z := big.NewInt(int64(n))
	z.Mul(z, big.NewInt(2))
	if n < 0 {
		z.Neg(z)
		z.Sub(z, big.NewInt(1))
	}
	var b []byte
	for {
		digit := new(big.Int)
		z.DivMod(z, big.NewInt(128), digit)
		if z.Sign() == 0 {
			return append(b, byte(digit.Int64()))
		}
		b = append(b, byte(digit.Int64())+128)
	}
}

// someInts are the integers next to which encodings become longer, and others.
func someInts() []int {
	l := []int{0, math.MaxInt, math.MinInt, math.MaxInt - 1, math.MinInt + 1}
	for k := range 63 {
		p := 1 << k
		l = append(l, p, p-1, p+1, -p, -p-1, -p+1)
	}
	r := rand.New(rand.NewSource(1))
	for range 1000 {
		l = append(l, int(r.Uint64()>>r.Intn(64)), -int(r.Uint64()>>r.Intn(64)))
	}
	return l
}

func TestInt(t *testing.T) {
	for _, n := range someInts() {
		b := wire.Int(n)
		if !bytes.Equal(b, plain(n)) {
			t.Errorf("P1.1: Int(%d) = %v, want %v", n, b, plain(n))
		}
		m, used, e := wire.GetInt(append(slices.Clone(b), 200, 0))
		if m != n || used != len(b) || e != api.OK {
			t.Errorf("P1.6: GetInt of %v: %d %d %d", b, m, used, e)
		}
		for k := range b {
			if m, used, e := wire.GetInt(b[:k]); m != 0 || used != 0 || e != api.ErrTruncated {
				t.Errorf("P1.6: a prefix of %d bytes of %v: %d %d %d", k, b, m, used, e)
			}
		}
		if len(wire.Int(-1-n)) != len(b) || len(b) < 1 || len(b) > 10 || (len(b) == 1) != (n >= -64 && n <= 63) {
			t.Errorf("P1.7: %d has %d bytes", n, len(b))
		}
	}
}

func TestGetIntRefuses(t *testing.T) {
	full := func(n int, more ...byte) []byte { return append(bytes.Repeat([]byte{255}, n), more...) }
	for i, x := range []struct {
		b []byte
		e api.Errno
	}{
		{nil, api.ErrTruncated},
		{[]byte{128}, api.ErrTruncated},
		{full(9), api.ErrTruncated},
		{full(10), api.ErrEncoding},
		{full(10, 1), api.ErrEncoding},
		{full(30, 1), api.ErrEncoding},
		{full(9, 2), api.ErrEncoding},
		{full(9, 127), api.ErrEncoding},
		{full(9, 0), api.ErrEncoding},
		{[]byte{128, 0}, api.ErrEncoding},
		{[]byte{255, 128, 0, 1}, api.ErrEncoding},
	} {
		if n, used, e := wire.GetInt(x.b); n != 0 || used != 0 || e != x.e {
			t.Errorf("P1.2: case %d: %d %d %d", i, n, used, e)
		}
	}
	if n, used, e := wire.GetInt(full(8, 128, 1)); n != -(1<<62)-(1<<55) || used != 10 || e != api.OK {
		t.Errorf("P1.2: ten bytes: %d %d %d", n, used, e)
	}
}

// Whatever is decoded has exactly the bytes of its encoding.
func TestOneEncoding(t *testing.T) {
	r := rand.New(rand.NewSource(2))
	for range 20000 {
		b := make([]byte, r.Intn(12))
		for i := range b {
			b[i] = byte(r.Intn(3)) + byte(r.Intn(3))*126
		}
		if n, used, e := wire.GetInt(b); e == api.OK && !bytes.Equal(wire.Int(n), b[:used]) {
			t.Fatalf("P1.6: GetInt of %v", b)
		}
		if s, used, e := wire.GetBytes(b); e == api.OK && !bytes.Equal(wire.Bytes(s), b[:used]) {
			t.Fatalf("P1.6: GetBytes of %v", b)
		}
		if l, used, e := wire.GetInts(b); e == api.OK && !bytes.Equal(wire.Ints(l), b[:used]) {
			t.Fatalf("P1.6: GetInts of %v", b)
		}
		if l, used, e := wire.GetStrings(b); e == api.OK && !bytes.Equal(wire.Strings(l), b[:used]) {
			t.Fatalf("P1.6: GetStrings of %v", b)
		}
	}
}

func TestBytes(t *testing.T) {
	for _, s := range []string{"", "a", "ab", strings.Repeat("x", 63), strings.Repeat("y", 64), strings.Repeat("\xff", 9000)} {
		b := wire.Bytes(s)
		if !bytes.Equal(b, append(plain(len(s)), s...)) {
			t.Errorf("P1.3: Bytes of %d bytes", len(s))
		}
		if got, used, e := wire.GetBytes(append(slices.Clone(b), 7)); got != s || used != len(b) || e != api.OK {
			t.Errorf("P1.3: GetBytes of %d bytes: %d %d", len(s), used, e)
		}
		for _, k := range []int{0, len(b) / 2, len(b) - 1} {
			if got, used, e := wire.GetBytes(b[:k]); got != "" || used != 0 || e != api.ErrTruncated {
				t.Errorf("P1.3: %d of %d bytes: %d %d", k, len(b), used, e)
			}
		}
	}
}

func TestLists(t *testing.T) {
	ints := []int{1, -1, math.MaxInt, 300}
	want := plain(4)
	for _, n := range ints {
		want = append(want, plain(n)...)
	}
	if b := wire.Ints(ints); !bytes.Equal(b, want) {
		t.Error("P1.4: Ints:", b)
	}
	if l, used, e := wire.GetInts(append(want, 9)); !slices.Equal(l, ints) || used != len(want) || e != api.OK {
		t.Error("P1.5: GetInts:", l, used, e)
	}
	texts := []string{"", "abc", "\x00\xff"}
	want = []byte{6, 0, 6, 97, 98, 99, 4, 0, 255}
	if b := wire.Strings(texts); !bytes.Equal(b, want) {
		t.Error("P1.4: Strings:", b)
	}
	if l, used, e := wire.GetStrings(append(want, 9)); !slices.Equal(l, texts) || used != len(want) || e != api.OK {
		t.Error("P1.5: GetStrings:", l, used, e)
	}
	digests := []api.Digest{{1, 2}, {15: 9}}
	want = append(append([]byte{4}, digests[0][:]...), digests[1][:]...)
	if b := wire.Digests(digests); !bytes.Equal(b, want) {
		t.Error("P1.4: Digests:", b)
	}
	if l, used, e := wire.GetDigests(append(want, 9)); !slices.Equal(l, digests) || used != len(want) || e != api.OK {
		t.Error("P1.5: GetDigests:", l, used, e)
	}
	for k := range want {
		if l, used, e := wire.GetDigests(want[:k]); len(l) != 0 || used != 0 || e != api.ErrTruncated {
			t.Error("P1.6: a prefix of digests:", k, used, e)
		}
	}
	for _, b := range [][]byte{wire.Ints(nil), wire.Strings(nil), wire.Digests(nil), wire.Bytes("")} {
		if !bytes.Equal(b, []byte{0}) {
			t.Error("P1.4: an empty list:", b)
		}
	}
}

func TestListsRefuse(t *testing.T) {
	long := wire.Int(math.MaxInt)
	for i, x := range []struct {
		b                           []byte
		bytes, ints, texts, digests api.Errno
	}{
		{nil, 10, 10, 10, 10},
		{[]byte{128}, 10, 10, 10, 10},
		{[]byte{128, 0}, 11, 11, 11, 11},
		{wire.Int(-1), 11, 11, 11, 11},
		{wire.Int(math.MinInt), 11, 11, 11, 11},
		{long, 10, 10, 10, 10},
		{append(wire.Int(1<<59), make([]byte, 64)...), 10, 10, 10, 10},
		{[]byte{6, 0, 0}, 10, 10, 10, 10},
		{[]byte{6, 128, 0, 0}, 0, 11, 11, 10},
		{[]byte{6, 128, 128}, 10, 10, 10, 10},
		{[]byte{4, 0, 128}, 0, 10, 10, 10},
		{[]byte{4, 0, 1}, 0, 0, 11, 10},
		{append([]byte{4}, make([]byte, 31)...), 0, 0, 0, 10},
		{append([]byte{4}, make([]byte, 32)...), 0, 0, 0, 0},
	} {
		s, n1, e1 := wire.GetBytes(x.b)
		l, n2, e2 := wire.GetInts(x.b)
		m, n3, e3 := wire.GetStrings(x.b)
		d, n4, e4 := wire.GetDigests(x.b)
		if e1 != x.bytes || e2 != x.ints || e3 != x.texts || e4 != x.digests {
			t.Errorf("P1.3, P1.5: case %d: %d %d %d %d", i, e1, e2, e3, e4)
		}
		if e1 != 0 && (s != "" || n1 != 0) || e2 != 0 && (len(l) != 0 || n2 != 0) || e3 != 0 && (len(m) != 0 || n3 != 0) || e4 != 0 && (len(d) != 0 || n4 != 0) {
			t.Errorf("P1.5: case %d: results beside an error", i)
		}
	}
}

func TestNewMemory(t *testing.T) {
	b := wire.Ints([]int{5, 6})
	l, _, _ := wire.GetInts(b)
	c := wire.Strings([]string{"abc"})
	s, _, _ := wire.GetStrings(c)
	clear(b)
	clear(c)
	if !slices.Equal(l, []int{5, 6}) || s[0] != "abc" {
		t.Error("results share memory with arguments")
	}
}

// A length alone must not make a decoder allocate.
func TestSmallMemory(t *testing.T) {
	b := wire.Int(1 << 40)
	if n := testing.AllocsPerRun(10, func() { wire.GetInts(b); wire.GetStrings(b); wire.GetDigests(b); wire.GetBytes(b) }); n > 0 {
		t.Error("P1.5: allocations for lists that are not there:", n)
	}
}
