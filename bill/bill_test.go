package bill_test

import (
	"math"
	"math/big"
	"math/rand"
	"reflect"
	"slices"
	"testing"

	"weirgate/api"
	"weirgate/bill"
)

func reply(customer, country string, carrier, from, to int) api.Reply {
	return api.Reply{Site: 2, Ask: api.Ask{Addr: customer + "/a", Country: country}, Carrier: carrier, Span: api.Span{From: from, To: to}}
}

func examples() []api.Reply {
	return []api.Reply{reply("acme", "de", 5, 0, 100), reply("acme", "fr", 5, 0, 50), reply("bolt", "de", 6, 10, 20), reply("acme", "de", 5, 100, 300)}
}

func post(customer, country string, carrier, site, replies, bytes int) api.Post {
	return api.Post{Customer: customer, Country: country, Carrier: carrier, Site: site, Replies: replies, Bytes: bytes}
}

func exampleBill() []api.Post {
	return []api.Post{post("acme", "de", 5, 2, 2, 300), post("acme", "fr", 5, 2, 1, 50), post("bolt", "de", 6, 2, 1, 10)}
}

func TestExamples(t *testing.T) {
	if l, e := bill.Of(examples()); e != api.OK || !reflect.DeepEqual(l, exampleBill()) {
		t.Error("P45.1:", l, e)
	}
	if l, e := bill.Reduce(exampleBill(), api.BiCarrier); e != api.OK || !reflect.DeepEqual(l, []api.Post{post("", "", 5, 0, 3, 350), post("", "", 6, 0, 1, 10)}) {
		t.Error("P45.2:", l, e)
	}
	tariffs := []api.Tariff{{Carrier: 5, PerReply: 1, PerByte: 2}, {Carrier: 6, PerReply: 10}}
	if n, e := bill.Price(exampleBill(), tariffs); n != 713 || e != api.OK {
		t.Error("P45.3:", n, e)
	}
	if n, e := bill.Price(exampleBill(), tariffs[:1]); n != 0 || e != api.ErrName {
		t.Error("P45.3:", n, e)
	}
}

func TestPostOf(t *testing.T) {
	for i, x := range []struct {
		change func(r *api.Reply)
		want   api.Post
		ok     bool
	}{
		{func(r *api.Reply) {}, post("acme", "de", 5, 2, 1, 90), true}, {func(r *api.Reply) { r.Ask.Addr = "bolt?a=b" }, post("bolt", "de", 5, 2, 1, 90), true},
		{func(r *api.Reply) { r.Carrier, r.Site, r.Span.To = 0, 0, 10 }, post("acme", "de", 0, 0, 1, 0), true}, {func(r *api.Reply) { r.Carrier, r.Site, r.Span = api.MaxParty, 63, api.Span{To: api.MaxBytes} }, post("acme", "de", api.MaxParty, 63, 1, api.MaxBytes), true}, {func(r *api.Reply) { r.Ask.Site, r.Stamp.Addr = 77, "x" }, post("acme", "de", 5, 2, 1, 90), true},
		{func(r *api.Reply) { r.Ask.Addr = "Acme/a" }, api.Post{}, false}, {func(r *api.Reply) { r.Ask.Addr = "acme/" }, api.Post{}, false}, {func(r *api.Reply) { r.Ask.Addr = "" }, api.Post{}, false}, {func(r *api.Reply) { r.Ask.Addr = "acme/a?" }, api.Post{}, false},
		{func(r *api.Reply) { r.Ask.Country = "" }, api.Post{}, false}, {func(r *api.Reply) { r.Ask.Country = "DE" }, api.Post{}, false}, {func(r *api.Reply) { r.Ask.Country = "deu" }, api.Post{}, false}, {func(r *api.Reply) { r.Ask.Country = "d{" }, api.Post{}, false},
		{func(r *api.Reply) { r.Carrier = -1 }, api.Post{}, false}, {func(r *api.Reply) { r.Carrier = api.MaxParty + 1 }, api.Post{}, false}, {func(r *api.Reply) { r.Site = -1 }, api.Post{}, false}, {func(r *api.Reply) { r.Site = 64 }, api.Post{}, false},
		{func(r *api.Reply) { r.Span.From = -1 }, api.Post{}, false}, {func(r *api.Reply) { r.Span.From = 101 }, api.Post{}, false}, {func(r *api.Reply) { r.Span.To = api.MaxBytes + 1 }, api.Post{}, false}, {func(r *api.Reply) { r.Span.From = math.MinInt }, api.Post{}, false},
	} {
		r := reply("acme", "de", 5, 10, 100)
		x.change(&r)
		p, e := bill.PostOf(r)
		if p != x.want || (e == api.OK) != x.ok || !x.ok && e != api.ErrForm {
			t.Error("P45.1: PostOf:", i, p, e)
		}
		if l, e := bill.Of([]api.Reply{reply("acme", "de", 5, 10, 100), r}); (e == api.OK) != x.ok || !x.ok && (e != api.ErrForm || l != nil) {
			t.Error("P45.1: Of:", i, e)
		}
	}
	many := slices.Repeat([]api.Reply{reply("acme", "de", 5, 0, 3)}, api.MaxReplies)
	if l, e := bill.Of(many); e != api.OK || !reflect.DeepEqual(l, []api.Post{post("acme", "de", 5, 2, api.MaxReplies, 3*api.MaxReplies)}) {
		t.Error("P45.1: many:", l, e)
	}
	if l, e := bill.Of(append(many, api.Reply{})); e != api.ErrLimit || l != nil {
		t.Error("P45.1: too many:", e)
	}
	if l, e := bill.Of(nil); e != api.OK || len(l) != 0 {
		t.Error("P45.1: none:", l, e)
	}
}

func badBills() [][]api.Post {
	l := [][]api.Post{
		{post("Acme", "de", 1, 1, 1, 1)}, {post("a.b", "de", 1, 1, 1, 1)}, {post("a,b", "de", 1, 1, 1, 1)}, {post("acme", "d", 1, 1, 1, 1)}, {post("acme", "D1", 1, 1, 1, 1)}, {post("acme", "de", -1, 1, 1, 1)}, {post("acme", "de", api.MaxParty+1, 1, 1, 1)}, {post("acme", "de", 1, -1, 1, 1)}, {post("acme", "de", 1, 64, 1, 1)},
		{post("acme", "de", 1, 1, 0, 1)}, {post("acme", "de", 1, 1, api.MaxCount+1, 1)}, {post("acme", "de", 1, 1, 1, -1)}, {post("acme", "de", 1, 1, 1, api.MaxVolume+1)},
		{post("a", "de", 1, 1, api.MaxCount, 1), post("b", "de", 1, 1, 1, 1)}, {post("a", "de", 1, 1, 1, api.MaxVolume), post("b", "de", 1, 1, 1, 1)},
		{post("a", "de", 1, 1, 1, 1), post("a", "de", 1, 1, 1, 1)}, {post("b", "aa", 0, 0, 1, 1), post("a", "de", 1, 1, 1, 1)}, {post("a", "de", 1, 1, 1, 1), post("a", "", 1, 1, 1, 1)}, {post("a", "de", 10, 1, 1, 1), post("a", "de", 9, 2, 1, 1)}, {post("a", "de", 1, 10, 1, 1), post("a", "de", 1, 9, 1, 1)},
	}
	return append(l, slices.Repeat([]api.Post{post("a", "de", 1, 1, 1, api.MaxVolume)}, 16))
}

func TestValid(t *testing.T) {
	for i, l := range [][]api.Post{nil, exampleBill(), {post("", "", 0, 0, 1, 0)}, {post("", "", 0, 0, 1, 0), post("", "de", 0, 0, 1, 0), post("-_9", "", api.MaxParty, 63, api.MaxCount-2, api.MaxVolume)}, {post("a", "de", 1, 2, 1, 1), post("a", "de", 2, 1, 1, 1), post("a", "de", 10, 1, 1, 1)}} {
		if !bill.Valid(l) {
			t.Error("P45.1: a valid bill:", i)
		}
	}
	for i, l := range badBills() {
		a, e1 := bill.Merge(l, exampleBill())
		b, e2 := bill.Merge(exampleBill(), l)
		c, e3 := bill.Reduce(l, 0)
		n, e4 := bill.Price(l, nil)
		replies, bytes := bill.Total(l)
		one, two := bill.Differ(l, exampleBill())
		three, four := bill.Differ(exampleBill(), l)
		d, e5 := bill.Reconcile([]api.Invoice{{}, {Posts: l}})
		if bill.Valid(l) || a != nil || b != nil || c != nil || d != nil || n != 0 || replies != 0 || bytes != 0 || one != nil || two != nil || three != nil || four != nil || e1 != 1 || e2 != 1 || e3 != 1 || e4 != 1 || e5 != 1 {
			t.Error("P45.1 to P45.6: a bill that is not valid:", i)
		}
	}
}

func TestMerge(t *testing.T) {
	a := []api.Post{post("a", "de", 5, 2, 1, 10), post("b", "de", 5, 2, 2, 20)}
	b := []api.Post{post("a", "aa", 5, 2, 3, 30), post("b", "de", 5, 2, 4, 40), post("b", "de", 5, 3, 5, 50)}
	want := []api.Post{b[0], a[0], post("b", "de", 5, 2, 6, 60), b[2]}
	if l, e := bill.Merge(a, b); e != api.OK || !reflect.DeepEqual(l, want) {
		t.Error("P45.2: Merge:", l, e)
	}
	if l, e := bill.Merge(nil, nil); e != api.OK || len(l) != 0 {
		t.Error("P45.2: Merge of nothing:", l, e)
	}
	full := []api.Post{post("c", "de", 5, 2, api.MaxCount-3, api.MaxVolume-30)}
	if l, e := bill.Merge(a, full); e != api.OK || len(l) != 3 {
		t.Error("P45.2: Merge:", l, e)
	}
	for _, more := range []api.Post{post("c", "de", 5, 2, 1, 0), post("a", "de", 6, 2, 1, 0)} {
		l, _ := bill.Merge(a, full)
		if x, e := bill.Merge(l, []api.Post{more}); e != api.ErrLimit || x != nil {
			t.Error("P45.2: Merge: too much:", e)
		}
	}
	if l, e := bill.Merge([]api.Post{post("a", "de", 1, 1, 1, api.MaxVolume)}, []api.Post{post("a", "de", 1, 1, 1, api.MaxVolume)}); e != api.ErrLimit || l != nil {
		t.Error("P45.2: Merge: too many bytes:", e)
	}
	for _, keep := range []int{-1, 16, math.MinInt, math.MaxInt} {
		if l, e := bill.Reduce(a, keep); e != api.ErrArg || l != nil {
			t.Error("P45.2: Reduce:", keep, e)
		}
	}
	for keep, want := range map[int][]api.Post{
		0: {post("", "", 0, 0, 4, 360)}, 15: exampleBill(), api.BiCountry: {post("", "de", 0, 0, 3, 310), post("", "fr", 0, 0, 1, 50)}, api.BiCustomer + api.BiSite: {post("acme", "", 0, 2, 3, 350), post("bolt", "", 0, 2, 1, 10)},
	} {
		if l, e := bill.Reduce(exampleBill(), keep); e != api.OK || !reflect.DeepEqual(l, want) {
			t.Error("P45.2: Reduce:", keep, l, e)
		}
	}
	if replies, bytes := bill.Total(exampleBill()); replies != 4 || bytes != 360 {
		t.Error("P45.2: Total:", replies, bytes)
	}
	one, two := bill.Differ(a, want)
	if !reflect.DeepEqual(one, a[1:]) || !reflect.DeepEqual(two, []api.Post{want[0], want[2], want[3]}) {
		t.Error("P45.3: Differ:", one, two)
	}
}

func TestPrice(t *testing.T) {
	l := []api.Post{post("a", "de", 5, 2, 1, 1<<40), post("a", "de", 6, 2, 2, 3)}
	bad := []api.Post{post("a", "de", 5, 2, 0, 0)}
	for i, x := range []struct {
		l    []api.Post
		t    []api.Tariff
		want int
		e    api.Errno
	}{
		{nil, nil, 0, 0}, {l, []api.Tariff{{Carrier: 6, PerReply: 7}, {Carrier: 5, PerByte: 1}, {Carrier: 6, PerReply: 100}}, 1<<40 + 14, 0}, {l, []api.Tariff{{Carrier: 5, PerByte: api.MaxTariff}, {Carrier: 6}}, api.MaxVolume, 0},
		{l, []api.Tariff{{Carrier: 5, PerByte: api.MaxTariff, PerReply: 1}, {Carrier: 6}}, 0, api.ErrLimit}, {l, []api.Tariff{{Carrier: 5, PerByte: api.MaxTariff}, {Carrier: 6, PerByte: 1}}, 0, api.ErrLimit},
		{l, []api.Tariff{{Carrier: 5, PerByte: api.MaxTariff, PerReply: 1}}, 0, api.ErrName}, {l, []api.Tariff{{Carrier: 6}}, 0, api.ErrName}, {l, nil, 0, api.ErrName},
		{nil, []api.Tariff{{PerByte: -1}}, 0, api.ErrArg}, {nil, []api.Tariff{{PerReply: -1}}, 0, api.ErrArg}, {l, []api.Tariff{{PerByte: api.MaxTariff + 1}}, 0, api.ErrArg}, {l, []api.Tariff{{PerReply: api.MaxTariff + 1}}, 0, api.ErrArg}, {bad, nil, 0, api.ErrArg},
		{[]api.Post{post("", "", 5, 0, api.MaxCount, api.MaxVolume)}, []api.Tariff{{Carrier: 5, PerReply: api.MaxTariff, PerByte: api.MaxTariff}}, 0, api.ErrLimit}, {[]api.Post{post("", "", 5, 0, api.MaxCount, 0)}, []api.Tariff{{Carrier: 5, PerReply: api.MaxTariff, PerByte: api.MaxTariff}}, api.MaxVolume, 0}, {[]api.Post{post("", "", 5, 0, 1, api.MaxVolume)}, []api.Tariff{{Carrier: 5, PerByte: 1}}, api.MaxVolume, 0},
	} {
		if n, e := bill.Price(x.l, x.t); n != x.want || e != x.e {
			t.Error("P45.3: Price:", i, n, e)
		}
	}
}

func randomBill(r *rand.Rand) []api.Post {
	var all []api.Reply
	for range r.Intn(30) {
		x := reply([]string{"a", "b", "c"}[r.Intn(3)], []string{"de", "fr", "it"}[r.Intn(3)], r.Intn(12), 0, r.Intn(100))
		x.Site = r.Intn(12)
		all = append(all, x)
	}
	l, _ := bill.Of(all)
	return l
}

func TestSums(t *testing.T) {
	r := rand.New(rand.NewSource(45))
	for range 500 {
		a, b := randomBill(r), randomBill(r)
		both, e := bill.Merge(a, b)
		swapped, _ := bill.Merge(b, a)
		if e != api.OK || !bill.Valid(both) || !reflect.DeepEqual(both, swapped) {
			t.Fatal("P45.8: Merge:", a, b)
		}
		keep, keep2 := r.Intn(16), r.Intn(16)
		once, _ := bill.Reduce(a, keep)
		twice, _ := bill.Reduce(once, keep2)
		direct, _ := bill.Reduce(a, keep&keep2)
		if !reflect.DeepEqual(twice, direct) || !bill.Valid(once) {
			t.Fatal("P45.8: Reduce of Reduce:", a, keep, keep2)
		}
		replies, bytes := bill.Total(a)
		if n, m := bill.Total(once); n != replies || m != bytes {
			t.Fatal("P45.8: totals:", a, keep)
		}
		other, _ := bill.Reduce(b, keep)
		whole, _ := bill.Reduce(both, keep)
		if sum, _ := bill.Merge(once, other); !reflect.DeepEqual(sum, whole) {
			t.Fatal("P45.8: Reduce of Merge:", a, b, keep)
		}
		var tariffs []api.Tariff
		for range 40 {
			tariffs = append(tariffs, api.Tariff{Carrier: r.Intn(12), PerReply: r.Intn(1 << 20), PerByte: r.Intn(1 << 20)})
		}
		checkPrices(t, a, b, both, tariffs)
		one, two := bill.Differ(a, both)
		for _, p := range one {
			if !slices.Contains(a, p) || slices.Contains(both, p) {
				t.Fatal("P45.3: Differ:", a, both)
			}
		}
		if len(one)-len(two) != len(a)-len(both) {
			t.Fatal("P45.3: Differ:", a, both)
		}
	}
}

func checkPrices(t *testing.T, a, b, both []api.Post, tariffs []api.Tariff) {
	t.Helper()
	pa, e1 := bill.Price(a, tariffs)
	pb, e2 := bill.Price(b, tariffs)
	p, e := bill.Price(both, tariffs)
	if e1 == api.OK && e2 == api.OK && (e != api.OK || p != pa+pb) || (e1 != api.OK || e2 != api.OK) && e != api.ErrName {
		t.Fatal("P45.8: the price of Merge:", e1, e2, e)
	}
	if e != api.OK {
		return
	}
	sum := new(big.Int)
	for _, x := range both {
		i := slices.IndexFunc(tariffs, func(t api.Tariff) bool { return t.Carrier == x.Carrier })
		sum.Add(sum, big.NewInt(int64(x.Replies*tariffs[i].PerReply+x.Bytes*tariffs[i].PerByte)))
	}
	if sum.Int64() != int64(p) {
		t.Fatal("P45.3: Price:", p, sum)
	}
}
