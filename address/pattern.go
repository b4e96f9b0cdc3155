package address

import (
	"strings"

	"weirgate/api"
)

// maxSuffix is the greatest number of bytes of the word behind "*." in a pattern.
const maxSuffix = 32

// Kinds of parts of patterns.
const (
	exact  = iota // a word, for itself
	every         // *
	ending        // *. and a word
)

// part is a part of a pattern; text is the word.
type part struct {
	kind int
	text string
}

// pattern is a pattern: any customer, if that is empty; open says that ** is at its end.
type pattern struct {
	customer string
	parts    []part
	open     bool
}

// Valid reports whether a string is a pattern.
func Valid(p string) bool {
	_, ok := read(p)
	return ok
}

// Match reports whether a pattern matches an address.
func Match(p, addr string) bool {
	x, valid := read(p)
	a, canonical := exactly(addr)
	if !valid || !canonical {
		return false
	}
	if x.customer != "" && x.customer != a.Customer || !x.hasLength(len(a.Path)) {
		return false
	}
	for i, part := range x.parts {
		if !part.matches(a.Path[i]) {
			return false
		}
	}
	return true
}

// Covers reports whether a pattern matches all addresses that another one does.
func Covers(p, q string) (bool, string, api.Errno) {
	x, y, ok := readBoth(p, q)
	if !ok {
		return false, "", api.ErrArg
	}
	if x.customer != "" && x.customer != y.customer {
		y.customer = otherThan(y.customer, x.customer)
		return false, y.sample(len(y.parts)), api.OK
	}
	if n, ok := lengthBeyond(x, y); ok {
		return false, y.sample(n), api.OK
	}
	for i, part := range x.parts {
		if !part.covers(y.parts[i]) {
			y.parts[i] = y.parts[i].without(part)
			return false, y.sample(len(y.parts)), api.OK
		}
	}
	return true, "", api.OK
}

// Meet reports whether two patterns have an address in common.
func Meet(p, q string) (bool, string, api.Errno) {
	x, y, ok := readBoth(p, q)
	if !ok {
		return false, "", api.ErrArg
	}
	both, ok := x.both(y)
	if !ok {
		return false, "", api.OK
	}
	return true, both.sample(len(both.parts)), api.OK
}

// Both returns the pattern of the addresses that two patterns match.
func Both(p, q string) (string, bool, api.Errno) {
	x, y, ok := readBoth(p, q)
	if !ok {
		return "", false, api.ErrArg
	}
	both, ok := x.both(y)
	if !ok {
		return "", false, api.OK
	}
	return both.written(), true, api.OK
}

// read reads a pattern.
func read(s string) (pattern, bool) {
	customer, rest, more := strings.Cut(s, "/")
	if customer != "*" && !isName(customer) || more && (rest == "" || strings.HasSuffix(rest, "/")) {
		return pattern{}, false
	}
	x := pattern{customer: strings.TrimPrefix(customer, "*")}
	for text := range partsOf(rest) {
		if x.open {
			return pattern{}, false
		}
		if text == "**" {
			x.open = true
			continue
		}
		p, ok := readPart(text)
		if !ok {
			return pattern{}, false
		}
		x.parts = append(x.parts, p)
	}
	n := len(x.parts)
	if x.open {
		n++
	}
	return x, n <= api.MaxParts
}

func readBoth(p, q string) (x, y pattern, ok bool) {
	x, ok = read(p)
	if !ok {
		return x, y, false
	}
	y, ok = read(q)
	return x, y, ok
}

func readPart(s string) (part, bool) {
	if s == "*" {
		return part{kind: every}, true
	}
	if suffix, ok := strings.CutPrefix(s, "*."); ok {
		return part{ending, suffix}, isWord(suffix) && len(suffix) <= maxSuffix
	}
	return part{exact, s}, isWord(s)
}

func (p part) written() string {
	switch p.kind {
	case every:
		return "*"
	case ending:
		return "*." + p.text
	}
	return p.text
}

func (x pattern) written() string {
	var b strings.Builder
	b.WriteString(x.customer)
	if x.customer == "" {
		b.WriteString("*")
	}
	for _, p := range x.parts {
		b.WriteString("/" + p.written())
	}
	if x.open {
		b.WriteString("/**")
	}
	return b.String()
}

// matches reports whether a part matches a word.
func (p part) matches(word string) bool {
	switch p.kind {
	case every:
		return true
	case ending:
		return len(word) > len(p.text)+1 && strings.HasSuffix(word, "."+p.text)
	}
	return word == p.text
}

// covers reports whether a part matches all words that another one does.
func (p part) covers(q part) bool {
	switch {
	case p.kind == every || p == q:
		return true
	case q.kind == exact:
		return p.matches(q.text)
	}
	return p.kind == ending && q.kind == ending && strings.HasSuffix(q.text, "."+p.text)
}

// word returns a word that a part matches, made with a letter, if the part leaves a choice.
func (p part) word(letter string) string {
	switch p.kind {
	case every:
		return letter
	case ending:
		return letter + "." + p.text
	}
	return p.text
}

// without returns a word that a part matches, and another part, which does not cover it, does not.
func (p part) without(q part) part {
	word := p.word("a")
	// The shortest words of a part match no narrower one, but for a single word.
	if q.matches(word) {
		word = p.word("b")
	}
	return part{exact, word}
}

// otherThan returns a customer that a pattern is about (empty: any), other than another one.
func otherThan(customer, other string) string {
	switch {
	case customer != "":
		return customer
	case other == "a":
		return "b"
	}
	return "a"
}

// hasLength reports whether a pattern matches addresses with so many parts.
func (x pattern) hasLength(n int) bool {
	return n == len(x.parts) || x.open && n > len(x.parts) && n <= api.MaxParts
}

// lengthBeyond returns a number of parts that addresses of y have, and none of x has.
func lengthBeyond(x, y pattern) (int, bool) {
	n := len(y.parts)
	if !x.hasLength(n) {
		return n, true
	}
	if y.open && !x.open {
		return n + 1, true
	}
	return 0, false
}

// sample returns an address with so many parts that a pattern matches.
func (x pattern) sample(n int) string {
	a := pattern{customer: x.customer}
	if a.customer == "" {
		a.customer = "a"
	}
	for i := range n {
		p := part{kind: every}
		if i < len(x.parts) {
			p = x.parts[i]
		}
		a.parts = append(a.parts, part{exact, p.word("a")})
	}
	return a.written()
}

// both returns the pattern of what two patterns match, if there is something.
func (x pattern) both(y pattern) (pattern, bool) {
	if len(x.parts) < len(y.parts) {
		x, y = y, x
	}
	if x.customer != "" && y.customer != "" && x.customer != y.customer || !y.hasLength(len(x.parts)) {
		return pattern{}, false
	}
	z := pattern{customer: x.customer, open: x.open && y.open}
	if z.customer == "" {
		z.customer = y.customer
	}
	for i, p := range x.parts {
		if i < len(y.parts) {
			q := y.parts[i]
			switch {
			case q.covers(p):
			case p.covers(q):
				p = q
			default:
				return pattern{}, false
			}
		}
		z.parts = append(z.parts, p)
	}
	return z, true
}
