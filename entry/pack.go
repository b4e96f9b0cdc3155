package entry

import (
	"weirgate/api"
	"weirgate/wire"
)

const (
	texts   = 6 // of a packed entry
	numbers = 7 // before those of spans
)

// Pack returns an entry as a text.
func Pack(e api.Entry) string {
	s, soft := e.Stamp, 0
	if e.Soft {
		soft = 1
	}
	l := []int{s.Status, s.Size, s.At.Lo, s.At.Hi, s.Gate, s.Serial, soft}
	for _, h := range e.Have {
		l = append(l, h.From, h.To)
	}
	b := wire.Strings([]string{s.Addr, s.Variant, string(s.Body[:]), s.Tags, string(s.Seal[:]), e.Bytes})
	return string(append(b, wire.Ints(l)...))
}

// Unpack returns the entry of a text.
func Unpack(s string) (e api.Entry, why api.Errno) {
	defer func() {
		if recover() != nil {
			e, why = api.Entry{}, api.ErrForm
		}
	}()
	b := []byte(s)
	t, used, bad := wire.GetStrings(b)
	must(bad == api.OK && len(t) == texts && len(t[2]) == api.DigestSize && len(t[4]) == len(api.Seal{}))
	l, more, bad := wire.GetInts(b[used:])
	must(bad == api.OK && used+more == len(b) && len(l) >= numbers && len(l)%2 == numbers%2)
	must(l[6] == 0 || l[6] == 1)
	e.Stamp = api.Stamp{
		Addr: t[0], Variant: t[1], Body: api.Digest([]byte(t[2])), Tags: t[3], Seal: api.Seal([]byte(t[4])),
		Status: l[0], Size: l[1], At: api.Period{Lo: l[2], Hi: l[3]}, Gate: l[4], Serial: l[5],
	}
	e.Soft, e.Bytes = l[6] == 1, t[5]
	for i := numbers; i < len(l); i += 2 {
		e.Have = append(e.Have, api.Span{From: l[i], To: l[i+1]})
	}
	e.Whole = hasAll(e)
	must(Valid(e))
	return e, api.OK
}

// must leaves a text that is no packed entry.
func must(ok bool) {
	if !ok {
		panic(api.ErrForm)
	}
}
