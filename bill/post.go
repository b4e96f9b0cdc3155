// Package bill is layer 45: see shared/doc/45-bill.md.
package bill

import (
	"cmp"
	"slices"
	"strconv"

	"weirgate/address"
	"weirgate/api"
)

// line is a post that can be compared.
type line api.Post

func (a line) compare(b line) int {
	return cmp.Or(cmp.Compare(a.Customer, b.Customer), cmp.Compare(a.Country, b.Country), cmp.Compare(a.Carrier, b.Carrier), cmp.Compare(a.Site, b.Site))
}

// sum adds up posts.
type sum struct {
	posts          map[[4]string]line
	replies, bytes int
}

func newSum() *sum { return &sum{posts: map[[4]string]line{}} }

// add adds posts; false if their sums become too great.
func (s *sum) add(l ...api.Post) bool {
	for _, p := range l {
		key := [4]string{p.Customer, p.Country, strconv.Itoa(p.Carrier), strconv.Itoa(p.Site)}
		old := s.posts[key]
		p.Replies += old.Replies
		p.Bytes += old.Bytes
		s.posts[key] = line(p)
		s.replies += p.Replies - old.Replies
		s.bytes += p.Bytes - old.Bytes
		if s.replies > api.MaxCount || s.bytes > api.MaxVolume {
			return false
		}
	}
	return true
}

// bill returns what was added up, in order.
func (s *sum) bill() []api.Post {
	var lines []line
	for _, p := range s.posts {
		lines = append(lines, p)
	}
	slices.SortFunc(lines, line.compare)
	var l []api.Post
	for _, p := range lines {
		l = append(l, api.Post(p))
	}
	return l
}

func isCountry(s string) bool {
	return len(s) == 2 && isLetter(s[0]) && isLetter(s[1])
}

func isLetter(c byte) bool { return c >= 'a' && c <= 'z' }

func isCarrier(n int) bool { return n >= 0 && n <= api.MaxParty }

func isSite(n int) bool { return n >= 0 && n < api.MaxSites }

// isName asks layer 6: what can be a tag are names.
func isName(s string) bool {
	_, e := address.Tags([]string{s})
	return e == api.OK
}

// PostOf returns the post of a reply.
func PostOf(r api.Reply) (api.Post, api.Errno) {
	a, e := address.Parse(r.Ask.Addr)
	if e != api.OK || !isCanonical(r.Ask.Addr) || !isCountry(r.Ask.Country) || !isCarrier(r.Carrier) || !isSite(r.Site) {
		return api.Post{}, api.ErrForm
	}
	if r.Span.From < 0 || r.Span.From > r.Span.To || r.Span.To > api.MaxBytes {
		return api.Post{}, api.ErrForm
	}
	return api.Post{Customer: a.Customer, Country: r.Ask.Country, Carrier: r.Carrier, Site: r.Site, Replies: 1, Bytes: r.Span.To - r.Span.From}, api.OK
}

func isCanonical(s string) bool {
	text, e := address.Canonical(s)
	return e == api.OK && text == s
}

// Of returns the bill of replies.
func Of(l []api.Reply) ([]api.Post, api.Errno) {
	if len(l) > api.MaxReplies {
		return nil, api.ErrLimit
	}
	s := newSum()
	for _, r := range l {
		p, e := PostOf(r)
		if e != api.OK {
			return nil, e
		}
		s.add(p)
	}
	return s.bill(), api.OK
}

// Valid reports whether a list of posts is valid.
func Valid(l []api.Post) bool {
	replies, bytes := 0, 0
	for i, p := range l {
		if !validPost(p) || i > 0 && line(p).compare(line(l[i-1])) <= 0 {
			return false
		}
		replies += p.Replies
		bytes += p.Bytes
		if replies > api.MaxCount || bytes > api.MaxVolume {
			return false
		}
	}
	return true
}

func validPost(p api.Post) bool {
	return (p.Customer == "" || isName(p.Customer)) && (p.Country == "" || isCountry(p.Country)) && isCarrier(p.Carrier) && isSite(p.Site) &&
		p.Replies >= 1 && p.Replies <= api.MaxCount && p.Bytes >= 0 && p.Bytes <= api.MaxVolume
}
