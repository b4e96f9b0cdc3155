package compile

import (
	"weirgate/api"
	"weirgate/hash"
	"weirgate/wire"
)

const tagName = 28

// Encode encodes code.
func Encode(m api.Module) []byte {
	texts, numbers := []string{m.Name}, []int(nil)
	for _, x := range m.Code {
		texts = append(texts, x.S)
		numbers = append(numbers, x.Op, x.A)
	}
	b := append(wire.Strings(texts), wire.Ints(m.Effects)...)
	return append(b, wire.Ints(numbers)...)
}

// Decode decodes code.
func Decode(b []byte) (api.Module, api.Errno) {
	texts, n, e := wire.GetStrings(b)
	if e != api.OK {
		return api.Module{}, api.ErrEncoding
	}
	effects, k, e := wire.GetInts(b[n:])
	if e != api.OK {
		return api.Module{}, api.ErrEncoding
	}
	numbers, l, e := wire.GetInts(b[n+k:])
	if e != api.OK || n+k+l != len(b) || len(texts) < 1 || len(numbers) != 2*(len(texts)-1) {
		return api.Module{}, api.ErrEncoding
	}
	m := api.Module{Name: texts[0]}
	m.Effects = append(m.Effects, effects...)
	for i, s := range texts[1:] {
		m.Code = append(m.Code, api.Instr{Op: numbers[2*i], A: numbers[2*i+1], S: s})
	}
	if Check(m) != api.OK {
		return api.Module{}, api.ErrEncoding
	}
	return m, api.OK
}

// Name returns the digest of code.
func Name(m api.Module) api.Digest { return hash.Of(tagName, string(Encode(m))) }
