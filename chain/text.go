package chain

import (
	"strconv"
	"strings"

	"weirgate/api"
	"weirgate/cond"
)

const (
	maxText = 1 << 17 // bytes of a text
	digits  = "0123456789abcdef"
)

// Text writes a token.
func Text(t api.Token) (string, api.Errno) {
	if !Valid(t) {
		return "", api.ErrForm
	}
	fields := []string{strconv.Itoa(t.Customer), strconv.Itoa(t.Serial), t.ID}
	for _, c := range t.Conds {
		fields = append(fields, textOf(c))
	}
	return strings.Join(append(fields, hexadecimal(t.Seal)), ";"), api.OK
}

// Parse reads a token.
func Parse(s string) (t api.Token, e api.Errno) {
	if len(s) > maxText {
		return api.Token{}, api.ErrLimit
	}
	defer func() {
		if recover() != nil {
			t, e = api.Token{}, api.ErrForm
		}
	}()
	r := reader{strings.Split(s, ";")}
	t = api.Token{Customer: r.number(), Serial: r.number(), ID: r.field()}
	for len(r.fields) > 1 {
		t.Conds = append(t.Conds, r.cond())
	}
	t.Seal = r.seal()
	// Whatever is not canonical is not the text of what was read.
	if text, e := Text(t); e != api.OK || text != s {
		panic(api.ErrForm)
	}
	return t, api.OK
}

// reader reads the fields of a text; it panics where that is none.
type reader struct{ fields []string }

func (r *reader) field() string {
	if len(r.fields) == 0 {
		panic(api.ErrForm)
	}
	f := r.fields[0]
	r.fields = r.fields[1:]
	return f
}

func (r *reader) number() int {
	n, e := strconv.Atoi(r.field())
	if e != nil {
		panic(api.ErrForm)
	}
	return n
}

func (r *reader) cond() api.Cond {
	c, e := cond.Parse(r.field())
	if e != api.OK {
		panic(e)
	}
	return c
}

func (r *reader) seal() api.Seal {
	var s api.Seal
	f := r.field()
	if len(f) != 2*len(s) {
		panic(api.ErrForm)
	}
	for i := range s {
		s[i] = digit(f[2*i])<<4 | digit(f[2*i+1])
	}
	return s
}

// digit returns the value of a hexadecimal digit.
func digit(c byte) byte {
	n := strings.IndexByte(digits, c)
	if n < 0 {
		panic(api.ErrForm)
	}
	return byte(n)
}

func hexadecimal(s api.Seal) string {
	var b strings.Builder
	for _, c := range s {
		b.WriteByte(digits[c>>4])
		b.WriteByte(digits[c&15])
	}
	return b.String()
}
