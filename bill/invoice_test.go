package bill_test

import (
	"math"
	"math/rand"
	"reflect"
	"slices"
	"strconv"
	"testing"

	"weirgate/api"
	"weirgate/bill"
	"weirgate/hash"
	"weirgate/replylog"
	"weirgate/seal"
)

func key(site int) api.Key {
	return api.Key{Party: api.SiteParty + site, Serial: 1, Secret: "s", From: 0, To: 1000}
}

func ring() []api.Key { return []api.Key{key(2), key(3)} }

// ledger returns a ledger of a site, with heads after so many replies.
func ledger(t *testing.T, r *rand.Rand, site int, sizes ...int) api.Ledger {
	t.Helper()
	l, _ := replylog.New(site)
	for i, size := range sizes {
		for len(l.Replies) < size {
			x := reply([]string{"a", "b"}[r.Intn(2)], []string{"de", "fr"}[r.Intn(2)], r.Intn(3), 0, r.Intn(100))
			x.Site, x.Seq = site, len(l.Replies)
			var e api.Errno
			if l, e = replylog.Append(l, x); e != api.OK {
				t.Fatal(e)
			}
		}
		var e api.Errno
		if l, _, e = replylog.Seal(l, key(site), api.Period{Lo: 10 + i, Hi: 50}); e != api.OK {
			t.Fatal(e)
		}
	}
	return l
}

func TestInvoice(t *testing.T) {
	l := ledger(t, rand.New(rand.NewSource(1)), 2, 0, 4, 4, 9)
	for i, x := range []struct {
		head, from int
		e          api.Errno
	}{{3, 0, 0}, {3, 9, 0}, {1, 3, 0}, {0, 0, 0}, {3, -1, api.ErrArg}, {3, 10, api.ErrArg}, {0, 1, api.ErrArg}, {3, math.MinInt, api.ErrArg}} {
		v, e := bill.Invoice(l, l.Heads[x.head], x.from)
		if e != x.e || e != api.OK && !reflect.DeepEqual(v, api.Invoice{}) {
			t.Error("P45.4:", i, e)
			continue
		}
		if e != api.OK {
			continue
		}
		want, _ := bill.Of(l.Replies[x.from:l.Heads[x.head].Size])
		if !reflect.DeepEqual(v, api.Invoice{Head: l.Heads[x.head], From: x.from, Posts: want}) || bill.Audit(ring(), l, v) != api.OK {
			t.Error("P45.4, P45.5:", i, v)
		}
	}
	other := l.Heads[3]
	other.At.Hi++
	if v, e := bill.Invoice(l, other, -1); e != api.ErrName || !reflect.DeepEqual(v, api.Invoice{}) {
		t.Error("P45.4: no head:", e)
	}
	bad := api.Ledger{Site: 2}
	for seq, country := range []string{"de", "DE", "fr"} {
		x := reply("a", country, 1, 0, 5)
		x.Seq = seq
		bad, _ = replylog.Append(bad, x)
	}
	bad, h, _ := replylog.Seal(bad, key(2), api.Period{Lo: 5, Hi: 6})
	if v, e := bill.Invoice(bad, h, 1); e != api.ErrForm || !reflect.DeepEqual(v, api.Invoice{}) {
		t.Error("P45.4: a reply that does not count:", e)
	}
	if _, e := bill.Invoice(bad, h, 2); e != api.OK {
		t.Error("P45.4: behind it:", e)
	}
	if e := bill.Audit(ring(), bad, api.Invoice{Head: h, From: 1}); e != api.ErrBill {
		t.Error("P45.5: a reply that does not count:", e)
	}
}

func TestAudit(t *testing.T) {
	l := ledger(t, rand.New(rand.NewSource(2)), 2, 4, 9)
	good, _ := bill.Invoice(l, l.Heads[1], 4)
	unknown := seal.SealHead(key(2), api.Head{Site: 2, Size: 4, Root: api.Digest{1}, At: api.Period{Lo: 20, Hi: 30}})
	for i, x := range []struct {
		change func(v *api.Invoice)
		e      api.Errno
	}{
		{func(v *api.Invoice) {}, 0}, {func(v *api.Invoice) { v.Head.Seal[0]++; v.From = -1 }, api.ErrSeal}, {func(v *api.Invoice) { v.Head.Site = 64 }, api.ErrArg}, {func(v *api.Invoice) { v.Head.Serial = 7 }, api.ErrName}, {func(v *api.Invoice) { v.Head.At.Hi = 1000 }, api.ErrTime}, {func(v *api.Invoice) { v.Head = unknown; v.From = -1 }, api.ErrName},
		{func(v *api.Invoice) { v.From = -1; v.Posts = nil }, api.ErrArg}, {func(v *api.Invoice) { v.From = 10 }, api.ErrArg}, {func(v *api.Invoice) { v.From = 3 }, api.ErrBill}, {func(v *api.Invoice) { v.From = 9 }, api.ErrBill}, {func(v *api.Invoice) { v.Posts = v.Posts[1:] }, api.ErrBill}, {func(v *api.Invoice) { v.Posts[0].Bytes++ }, api.ErrBill}, {func(v *api.Invoice) { v.Head = l.Heads[0] }, api.ErrBill}, {func(v *api.Invoice) { v.From, v.Posts = 9, nil }, 0},
	} {
		v := good
		v.Posts = slices.Clone(good.Posts)
		x.change(&v)
		if e := bill.Audit(ring(), l, v); e != x.e {
			t.Error("P45.5:", i, e)
		}
	}
}

func TestReconcile(t *testing.T) {
	invoice := func(site, from, size, replies int) api.Invoice {
		v := api.Invoice{Head: api.Head{Site: site, Size: size}, From: from}
		if replies > 0 {
			v.Posts = []api.Post{post("a", "de", 1, site, replies, 7)}
		}
		return v
	}
	for i, x := range []struct {
		l    []api.Invoice
		want []api.Post
		e    api.Errno
	}{
		{nil, nil, 0}, {[]api.Invoice{invoice(2, 0, 5, 3), invoice(2, 5, 9, 4), invoice(3, 0, 9, 1)}, []api.Post{post("a", "de", 1, 2, 7, 14), post("a", "de", 1, 3, 1, 7)}, 0}, {[]api.Invoice{invoice(2, 7, 9, 3), invoice(2, 0, 5, 4)}, []api.Post{post("a", "de", 1, 2, 7, 14)}, 0}, {[]api.Invoice{invoice(2, 0, 9, 3), invoice(2, 5, 5, 0), invoice(2, 5, 5, 0)}, []api.Post{post("a", "de", 1, 2, 3, 7)}, 0},
		{[]api.Invoice{invoice(2, -1, 5, 3)}, nil, api.ErrArg}, {[]api.Invoice{invoice(2, 6, 5, 3)}, nil, api.ErrArg}, {[]api.Invoice{invoice(2, 0, -1, 3)}, nil, api.ErrArg}, {[]api.Invoice{invoice(2, 0, 5, 3), invoice(2, 0, 5, 3), invoice(2, 6, 5, 3)}, nil, api.ErrArg},
		{[]api.Invoice{invoice(2, 0, 5, 3), invoice(2, 4, 9, 4)}, nil, api.ErrTwice}, {[]api.Invoice{invoice(2, 4, 9, api.MaxCount), invoice(3, 0, 1, 1), invoice(2, 0, 5, 3)}, nil, api.ErrTwice}, {[]api.Invoice{invoice(2, 0, 5, 3), invoice(2, 0, 5, 3)}, nil, api.ErrTwice}, {[]api.Invoice{invoice(2, 0, 9, 3), invoice(2, 3, 4, 3)}, nil, api.ErrTwice}, {[]api.Invoice{invoice(2, 0, 9, 3), invoice(2, 4, 5, 0)}, nil, api.ErrTwice},
		{[]api.Invoice{invoice(2, 0, 5, api.MaxCount), invoice(2, 5, 6, 1)}, nil, api.ErrLimit}, {[]api.Invoice{invoice(2, 0, 5, api.MaxCount-1), invoice(3, 5, 6, 1)}, []api.Post{post("a", "de", 1, 2, api.MaxCount-1, 7), post("a", "de", 1, 3, 1, 7)}, 0},
	} {
		if l, e := bill.Reconcile(x.l); e != x.e || !reflect.DeepEqual(l, x.want) {
			t.Error("P45.6:", i, l, e)
		}
	}
}

func TestBooks(t *testing.T) {
	r := rand.New(rand.NewSource(45))
	for range 30 {
		var invoices []api.Invoice
		var all []api.Reply
		for _, site := range []int{2, 3} {
			l := ledger(t, r, site, r.Intn(3), 3+r.Intn(3), 6+r.Intn(9))
			from := 0
			for _, h := range l.Heads {
				v, e := bill.Invoice(l, h, from)
				if e != api.OK || bill.Audit(ring(), l, v) != api.OK {
					t.Fatal("P45.9: Audit:", e)
				}
				invoices = append(invoices, v)
				from = h.Size
			}
			all = append(all, l.Replies...)
		}
		r.Shuffle(len(all), func(i, k int) { all[i], all[k] = all[k], all[i] })
		want, _ := bill.Of(all)
		if l, e := bill.Reconcile(invoices); e != api.OK || !reflect.DeepEqual(l, want) {
			t.Fatal("P45.8, P45.9:", l, e, want)
		}
	}
}

// slowSample returns the sample from its definition.
func slowSample(h api.Head, n int) []int {
	chosen := map[int]bool{}
	for i := range n {
		d := hash.Of(45, string(h.Root[:]), strconv.Itoa(i))
		x := 0
		for _, b := range d[:7] {
			x = 256*x + int(b)
		}
		chosen[x%h.Size] = true
	}
	var l []int
	for p := range chosen {
		l = append(l, p)
	}
	slices.Sort(l)
	return l
}

func TestSample(t *testing.T) {
	for _, size := range []int{1, 2, 10, 1000, api.MaxCount} {
		for _, n := range []int{0, 1, 5, 12, api.MaxProbe} {
			h := api.Head{Size: size, Root: api.Digest{byte(size), 9}}
			if l, e := bill.Sample(h, n); e != api.OK || !slices.Equal(l, slowSample(h, n)) {
				t.Error("P45.7:", size, n, l, e)
			}
		}
	}
	for i, x := range []struct{ size, n int }{{5, -1}, {5, api.MaxProbe + 1}, {0, 1}, {0, 0}, {-1, 1}, {api.MaxCount + 1, 1}, {math.MinInt, 1}} {
		if l, e := bill.Sample(api.Head{Size: x.size}, x.n); e != api.ErrArg || l != nil {
			t.Error("P45.7: errors:", i, l, e)
		}
		if e := bill.CheckSample(ring(), api.Head{Size: x.size}, x.n, nil); e != api.ErrArg {
			t.Error("P45.7: CheckSample:", i, e)
		}
	}
}

func TestCheckSample(t *testing.T) {
	l := ledger(t, rand.New(rand.NewSource(3)), 2, 12, 40)
	h := l.Heads[1]
	places, _ := bill.Sample(h, 9)
	var shown []api.Shown
	for _, p := range places {
		s, _ := replylog.Proof(l, p, h)
		shown = append(shown, s)
	}
	if e := bill.CheckSample(ring(), h, 9, shown); e != api.OK {
		t.Error("P45.10:", e)
	}
	for i, x := range []struct {
		change func(l []api.Shown) []api.Shown
		e      api.Errno
	}{
		{func(l []api.Shown) []api.Shown { return l[1:] }, api.ErrForm}, {func(l []api.Shown) []api.Shown { return append(l, l[0]) }, api.ErrForm}, {func(l []api.Shown) []api.Shown { l[0], l[1] = l[1], l[0]; return l }, api.ErrForm}, {func(l []api.Shown) []api.Shown { l[2].Head = api.Head{}; return l }, api.ErrForm}, {func(l []api.Shown) []api.Shown { l[2].Head.Seal[0]++; l[0].Path = nil; return l }, api.ErrForm},
		{func(l []api.Shown) []api.Shown { l[0].Path = nil; l[3].Reply.Site = 3; return l }, api.ErrForm}, {func(l []api.Shown) []api.Shown { l[3].Reply.Site = 3; return l }, api.ErrArg}, {func(l []api.Shown) []api.Shown { l[4].Reply.Mode++; return l }, api.ErrForm}, {func(l []api.Shown) []api.Shown { l[4].Reply.Seq++; return l }, api.ErrForm},
	} {
		if e := bill.CheckSample(ring(), h, 9, x.change(slices.Clone(shown))); e != x.e {
			t.Error("P45.7, P45.10:", i, e)
		}
	}
	if e := bill.CheckSample(nil, h, 9, shown); e != api.ErrName {
		t.Error("P45.7: without keys:", e)
	}
	if e := bill.CheckSample(ring(), h, 0, nil); e != api.OK {
		t.Error("P45.7: no places:", e)
	}
}
