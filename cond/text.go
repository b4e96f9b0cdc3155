package cond

import (
	"strconv"
	"strings"

	"weirgate/api"
)

// nothing stands in texts for an empty pattern, or list.
const nothing = "~"

// Text returns the canonical text of a condition.
func Text(c api.Cond) (string, api.Errno) {
	if !Valid(c) {
		return "", api.ErrArg
	}
	return strings.Join([]string{
		strconv.Itoa(c.From), strconv.Itoa(c.To), written(c.Pattern),
		written(strings.Join(c.Clients, ",")), written(strings.Join(c.Countries, ",")),
		written(strings.Join(decimals(c.Sites), ",")), strconv.Itoa(c.Uses),
	}, " "), api.OK
}

// Parse returns the condition of a text.
func Parse(s string) (api.Cond, api.Errno) {
	var r reader
	steps := []func(string){r.from, r.to, r.pattern, r.clients, r.countries, r.sites, r.uses}
	fields := strings.Split(s, " ")
	if len(fields) != len(steps) {
		return api.Cond{}, api.ErrForm
	}
	for i, field := range fields {
		steps[i](field)
	}
	// Whatever is not canonical is not the text of what was read.
	if text, e := Text(r.c); e != api.OK || text != s {
		return api.Cond{}, api.ErrForm
	}
	return r.c, api.OK
}

// reader reads the fields of a text, as far as they are right.
type reader struct{ c api.Cond }

func (r *reader) from(s string)      { r.c.From = number(s) }
func (r *reader) to(s string)        { r.c.To = number(s) }
func (r *reader) uses(s string)      { r.c.Uses = number(s) }
func (r *reader) clients(s string)   { r.c.Clients = list(s) }
func (r *reader) countries(s string) { r.c.Countries = list(s) }

func (r *reader) pattern(s string) {
	if s != nothing {
		r.c.Pattern = s
	}
}

func (r *reader) sites(s string) {
	for _, n := range list(s) {
		r.c.Sites = append(r.c.Sites, number(n))
	}
}

// number returns the number with these digits, or one that no field may have.
func number(s string) int {
	n, e := strconv.Atoi(s)
	if e != nil {
		return -1
	}
	return n
}

func list(s string) []string {
	if s == nothing {
		return nil
	}
	return strings.Split(s, ",")
}

func written(s string) string {
	if s == "" {
		return nothing
	}
	return s
}

func decimals(l []int) []string {
	out := make([]string, len(l))
	for i, n := range l {
		out[i] = strconv.Itoa(n)
	}
	return out
}
