package lexer

import (
	"strings"

	"weirgate/api"
)

// reader reads a source from the left to the right. Where there is no token it panics with a problem.
type reader struct {
	s  string
	at int
}

// kind is a kind of tokens: with which bytes they begin, and how they are read.
type kind struct {
	begins func(c byte) bool
	read   func(r *reader) (int, string)
}

func kindsOfTokens() []kind {
	return []kind{
		{isSmall, (*reader).name},
		{isDigit, (*reader).number},
		{func(c byte) bool { return c == '"' }, (*reader).text},
		{func(byte) bool { return true }, (*reader).sign},
	}
}

// skip goes on behind space and comments.
func (r *reader) skip() {
	for r.at < len(r.s) {
		switch r.s[r.at] {
		case ' ', '\t', '\n', '\r':
			r.at++
		case '#':
			end := strings.IndexByte(r.s[r.at:], '\n')
			if end < 0 {
				end = len(r.s) - r.at
			}
			r.at += end
		default:
			return
		}
	}
}

// while goes on as long as bytes are of a kind, and returns them.
func (r *reader) while(ok func(c byte) bool) string {
	from := r.at
	for r.at < len(r.s) && ok(r.s[r.at]) {
		r.at++
	}
	return r.s[from:r.at]
}

// name reads a name or a word.
func (r *reader) name() (int, string) {
	at := r.at
	s := r.while(func(c byte) bool { return isSmall(c) || isDigit(c) || c == '_' })
	switch {
	case Word(s):
		return api.TkWord, s
	case len(s) > api.MaxName:
		fail(at, api.ErrLimit)
	}
	return api.TkName, s
}

// number reads a number.
func (r *reader) number() (int, string) {
	at := r.at
	s := r.while(isDigit)
	more := r.while(func(c byte) bool { return isSmall(c) || c >= 'A' && c <= 'Z' || c == '_' })
	if len(s) > api.MaxDigits || len(s) > 1 && s[0] == '0' || more != "" {
		fail(at, api.ErrNumber)
	}
	return api.TkNumber, s
}

// text reads a text in quotes.
func (r *reader) text() (int, string) {
	at := r.at
	var b []byte
	for r.at++; r.at < len(r.s) && r.s[r.at] != '"'; r.at++ {
		c := r.s[r.at]
		if c == '\\' && r.at+1 < len(r.s) {
			r.at++
			c = r.s[r.at]
			if c != '"' && c != '\\' {
				fail(at, api.ErrText)
			}
		} else if c < 32 || c > 126 || c == '\\' {
			fail(at, api.ErrText)
		}
		b = append(b, c)
	}
	if r.at == len(r.s) || len(b) > api.MaxQuoted {
		fail(at, api.ErrText)
	}
	r.at++
	return api.TkText, string(b)
}

// sign reads a sign: one of two bytes, if there is one.
func (r *reader) sign() (int, string) {
	for size := 2; size > 0; size-- {
		if r.at+size <= len(r.s) && isSign(r.s[r.at:r.at+size]) {
			r.at += size
			return api.TkSign, r.s[r.at-size : r.at]
		}
	}
	fail(r.at, api.ErrSyntax)
	return 0, ""
}

func fail(at int, e api.Errno) { panic(api.Problem{At: at, E: e}) }

func isSmall(c byte) bool { return c >= 'a' && c <= 'z' }

func isDigit(c byte) bool { return c >= '0' && c <= '9' }

func isSign(s string) bool {
	switch s {
	case "{", "}", "(", ")", "[", "]", ",", ";", ":", "=", "==", "!=", "<", ">", "<=", ">=", "+", "-", "*", "/", "%", "..":
		return true
	}
	return false
}
