package bill

import (
	"cmp"
	"slices"
	"strconv"

	"weirgate/api"
	"weirgate/hash"
	"weirgate/replylog"
	"weirgate/seal"
)

// tagSample is the tag of the digests that choose samples.
const tagSample = 45

// Invoice returns the bill of a part of a log.
func Invoice(l api.Ledger, h api.Head, from int) (api.Invoice, api.Errno) {
	if !slices.Contains(l.Heads, h) {
		return api.Invoice{}, api.ErrName
	}
	if from < 0 || from > h.Size {
		return api.Invoice{}, api.ErrArg
	}
	posts, e := Of(l.Replies[from:h.Size])
	if e != api.OK {
		return api.Invoice{}, e
	}
	return api.Invoice{Head: h, From: from, Posts: posts}, api.OK
}

// Audit checks an invoice by the ledger of its site.
func Audit(ring []api.Key, l api.Ledger, v api.Invoice) api.Errno {
	if e := seal.CheckHead(ring, v.Head); e != api.OK {
		return e
	}
	right, e := Invoice(l, v.Head, v.From)
	if e == api.ErrName || e == api.ErrArg {
		return e
	}
	if e != api.OK || !slices.Equal(right.Posts, v.Posts) {
		return api.ErrBill
	}
	return api.OK
}

// Reconcile returns the sum of invoices.
func Reconcile(l []api.Invoice) ([]api.Post, api.Errno) {
	for _, v := range l {
		if !Valid(v.Posts) || v.From < 0 || v.From > v.Head.Size {
			return nil, api.ErrArg
		}
	}
	if overlap(l) {
		return nil, api.ErrTwice
	}
	s := newSum()
	for _, v := range l {
		if !s.add(v.Posts...) {
			return nil, api.ErrLimit
		}
	}
	return s.bill(), api.OK
}

// overlap reports whether two invoices are for the same reply.
func overlap(l []api.Invoice) bool {
	type part struct{ site, from, to int }
	var parts []part
	for _, v := range l {
		if v.From < v.Head.Size {
			parts = append(parts, part{v.Head.Site, v.From, v.Head.Size})
		}
	}
	slices.SortFunc(parts, func(a, b part) int {
		return cmp.Or(cmp.Compare(a.site, b.site), cmp.Compare(a.from, b.from))
	})
	for i, p := range parts {
		if i > 0 && p.site == parts[i-1].site && p.from < parts[i-1].to {
			return true
		}
	}
	return false
}

// Sample returns places of a log that its head decides.
func Sample(h api.Head, n int) ([]int, api.Errno) {
	if n < 0 || n > api.MaxProbe || h.Size < 1 || h.Size > api.MaxCount {
		return nil, api.ErrArg
	}
	var places []int
	for i := range n {
		d := hash.Of(tagSample, string(h.Root[:]), strconv.Itoa(i))
		number := 0
		for _, b := range d[:7] {
			number = number<<8 | int(b)
		}
		places = append(places, number%h.Size)
	}
	slices.Sort(places)
	return slices.Compact(places), api.OK
}

// CheckSample checks replies with proofs for such places.
func CheckSample(ring []api.Key, h api.Head, n int, l []api.Shown) api.Errno {
	places, e := Sample(h, n)
	if e != api.OK {
		return e
	}
	if len(l) != len(places) {
		return api.ErrForm
	}
	for i, s := range l {
		if s.Head != h || s.Reply.Seq != places[i] {
			return api.ErrForm
		}
	}
	for _, s := range l {
		if e := replylog.CheckShown(ring, s); e != api.OK {
			return e
		}
	}
	return api.OK
}
