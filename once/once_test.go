package once_test

import (
	"math"
	"math/rand"
	"reflect"
	"slices"
	"testing"

	"weirgate/api"
	"weirgate/once"
	"weirgate/ranges"
)

var id = api.Digest{7}

func spans(l ...int) []api.Span {
	var s []api.Span
	for i := 0; i < len(l); i += 2 {
		s = append(s, api.Span{From: l[i], To: l[i+1]})
	}
	return s
}

func purse(t *testing.T, me, uses int) api.Purse {
	t.Helper()
	p, e := once.New(id, me, uses)
	if e != api.OK || once.Check(p) != api.OK {
		t.Fatal("New:", e)
	}
	return p
}

// comb is a set of n uses, none of which is next to another one.
func comb(n, first int) []api.Span {
	var l []api.Span
	for i := range n {
		l = append(l, api.Span{From: first + 2*i, To: first + 2*i + 1})
	}
	return l
}

func clone(p api.Purse) api.Purse {
	p.Left, p.Spent, p.Sent, p.Heard = slices.Clone(p.Left), slices.Clone(p.Spent), slices.Clone(p.Sent), slices.Clone(p.Heard)
	var out []api.Gift
	for _, g := range p.Out {
		g.Uses = slices.Clone(g.Uses)
		out = append(out, g)
	}
	p.Out = out
	return p
}

func TestNew(t *testing.T) {
	for i, x := range []struct {
		me, uses int
		e        api.Errno
	}{{0, 0, 0}, {127, api.MaxUses, 0}, {5, 3, 0}, {-1, 3, 1}, {128, 3, 1}, {0, -1, 1}, {0, api.MaxUses + 1, 2}, {128, api.MaxUses + 1, 1}, {math.MinInt, 0, 1}, {0, math.MaxInt, 2}} {
		p, e := once.New(id, x.me, x.uses)
		if e != x.e || e != api.OK && !reflect.DeepEqual(p, api.Purse{}) {
			t.Error("P26.1:", i, e)
		}
		if e == api.OK && (p.ID != id || p.Me != x.me || ranges.Total(p.Left) != x.uses || len(p.Spent)+len(p.Sent)+len(p.Heard)+len(p.Out) != 0 || x.uses > 0 && p.Left[0].From != 1 || once.Check(p) != api.OK) {
			t.Error("P26.1:", i, p)
		}
	}
}

func TestCheck(t *testing.T) {
	good := api.Purse{ID: id, Me: 3, Left: spans(1, 4, 9, 10), Spent: spans(4, 6), Sent: []api.Mark{{Party: 0, N: 5}, {Party: 4, N: 2}}, Heard: []api.Mark{{Party: 1, N: api.MaxSerial}},
		Out: []api.Gift{{To: 0, Serial: 4, Uses: spans(20, 21)}, {To: 4, Serial: 1, Uses: spans(30, 32)}, {To: 0, Serial: 5, Uses: spans(22, 23)}, {To: 4, Serial: 2, Uses: spans(22, 23)}}}
	if once.Check(good) != api.OK {
		t.Error("P26.1: a right purse")
	}
	many := func(n int) []api.Gift {
		var l []api.Gift
		for i := range n {
			l = append(l, api.Gift{To: 0, Serial: i + 1, Uses: spans(1, 2)})
		}
		return l
	}
	big := api.Purse{Me: 3, Left: comb(1000, 1), Spent: comb(1000, 2), Sent: []api.Mark{{Party: 0, N: 64}}, Out: many(64)}
	if once.Check(big) != api.OK || once.Check(api.Purse{Left: spans(api.MaxUses, api.MaxUses+1)}) != api.OK {
		t.Error("P26.1: the greatest purse")
	}
	for i, change := range []func(p *api.Purse){
		func(p *api.Purse) { p.Me = -1 }, func(p *api.Purse) { p.Me = 128 }, func(p *api.Purse) { p.Left = spans(0, 1) }, func(p *api.Purse) { p.Left = spans(1, api.MaxUses+2) }, func(p *api.Purse) { p.Left = spans(5, 5) }, func(p *api.Purse) { p.Left = spans(2, 3, 1, 2) }, func(p *api.Purse) { p.Left = comb(1001, 11) }, func(p *api.Purse) { p.Spent = comb(1001, 11) },
		func(p *api.Purse) { p.Spent = spans(3, 6) }, func(p *api.Purse) { p.Sent[0].Party = 3 }, func(p *api.Purse) { p.Sent[0].Party = -1 }, func(p *api.Purse) { p.Sent[1].Party = 128 }, func(p *api.Purse) { p.Sent[0], p.Sent[1] = p.Sent[1], p.Sent[0] }, func(p *api.Purse) { p.Sent[1].Party = 0 }, func(p *api.Purse) { p.Sent[0].N = 6 }, func(p *api.Purse) { p.Sent[0].N = 4 },
		func(p *api.Purse) { p.Heard[0].N = 0 }, func(p *api.Purse) { p.Heard[0].N = api.MaxSerial + 1 }, func(p *api.Purse) { p.Heard[0].Party = 3 }, func(p *api.Purse) { p.Out = p.Out[:3] }, func(p *api.Purse) { p.Out[0].Serial = 3 }, func(p *api.Purse) { p.Out[0].Serial, p.Out[2].Serial = 5, 4 }, func(p *api.Purse) { p.Out[0].Uses = nil },
		func(p *api.Purse) { p.Out[0].Uses = spans(0, 1) }, func(p *api.Purse) { p.Out[0].To = 1 }, func(p *api.Purse) { p.Out[0].To = 3 }, func(p *api.Purse) { p.Out[0].To = 200 }, func(p *api.Purse) { p.Sent = p.Sent[:1] }, func(p *api.Purse) { p.Out, p.Sent[0].N = many(65), 65 },
		func(p *api.Purse) {
			p.Sent, p.Out = []api.Mark{{Party: 0, N: 1}}, []api.Gift{{To: 0, Serial: 0, Uses: spans(1, 2)}, {To: 0, Serial: 1, Uses: spans(1, 2)}}
		},
	} {
		p := clone(good)
		change(&p)
		if once.Check(p) != api.ErrArg {
			t.Error("P26.1: a purse that is not right:", i)
		}
	}
}

func TestExample(t *testing.T) {
	zero, one := purse(t, 0, 5), purse(t, 1, 0)
	zero, e := once.Give(zero, 1, 2)
	gift := api.Gift{To: 1, Serial: 1, Uses: spans(1, 3)}
	if e != api.OK || !slices.Equal(zero.Left, spans(3, 6)) || !reflect.DeepEqual(zero.Out, []api.Gift{gift}) || !slices.Equal(zero.Sent, []api.Mark{{Party: 1, N: 1}}) || !slices.Equal(once.Flying(zero, one), spans(1, 3)) {
		t.Error("P26.3, P26.6:", zero, e)
	}
	letters := once.Letters(zero)
	want := api.UseLetter{ID: id, Kind: api.UlGift, From: 0, To: 1, Serial: 1, Uses: spans(1, 3)}
	if !reflect.DeepEqual(letters, []api.UseLetter{want}) {
		t.Error("P26.4:", letters)
	}
	ack := api.UseLetter{ID: id, Kind: api.UlAck, From: 1, To: 0, Serial: 1}
	for n := range 2 {
		var answers []api.UseLetter
		one, answers = once.Hear(one, want)
		if !slices.Equal(one.Left, spans(1, 3)) || !reflect.DeepEqual(answers, []api.UseLetter{ack}) || len(once.Flying(zero, one)) != 0 {
			t.Error("P26.5: heard", n, one, answers)
		}
	}
	zero, answers := once.Hear(zero, ack)
	if len(zero.Out) != 0 || len(answers) != 0 {
		t.Error("P26.5: confirmed:", zero, answers)
	}
	for n, want := range []int{1, 2, 0} {
		next, use, e := once.Spend(one)
		if use != want || (e == api.OK) != (n < 2) || n == 2 && (e != api.ErrState || !reflect.DeepEqual(next, one)) {
			t.Error("P26.2:", n, use, e)
		}
		one = next
	}
	if !slices.Equal(one.Spent, spans(1, 3)) || len(one.Left) != 0 {
		t.Error("P26.2:", one)
	}
	if p, e := once.Give(zero, 1, 4); e != api.ErrState || !reflect.DeepEqual(p, zero) {
		t.Error("P26.3:", e)
	}
}

func TestGiveSpend(t *testing.T) {
	p := purse(t, 0, 5)
	for i, x := range []struct {
		to, n int
		e     api.Errno
	}{{0, 1, 1}, {-1, 1, 1}, {128, 1, 1}, {1, 0, 1}, {1, -1, 1}, {1, 6, 4}, {1, math.MaxInt, 4}, {0, 6, 1}, {127, 5, 0}} {
		old := clone(p)
		q, e := once.Give(p, x.to, x.n)
		if e != x.e || e != api.OK && !reflect.DeepEqual(q, p) || !reflect.DeepEqual(p, old) || once.Check(q) != api.OK {
			t.Error("P26.3:", i, e)
		}
	}
	q := api.Purse{Me: 2, Left: spans(3, 4, 6, 8, 9, 20)}
	q, _ = once.Give(q, 5, 4)
	q, _ = once.Give(q, 1, 1)
	q, e := once.Give(q, 5, 1)
	if e != api.OK || !slices.Equal(q.Left, spans(12, 20)) || !slices.Equal(q.Sent, []api.Mark{{Party: 1, N: 1}, {Party: 5, N: 2}}) || !reflect.DeepEqual(q.Out, []api.Gift{{To: 5, Serial: 1, Uses: spans(3, 4, 6, 8, 9, 10)}, {To: 1, Serial: 1, Uses: spans(10, 11)}, {To: 5, Serial: 2, Uses: spans(11, 12)}}) {
		t.Error("P26.3:", q, e)
	}
	full := purse(t, 0, 100)
	for range api.MaxGifts {
		full, e = once.Give(full, 1, 1)
	}
	if e != api.OK || once.Check(full) != api.OK {
		t.Error("P26.3: 64 gifts:", e)
	}
	if r, e := once.Give(full, 2, 1); e != api.ErrLimit || !reflect.DeepEqual(r, full) {
		t.Error("P26.3: 65 gifts:", e)
	}
	if _, e := once.Give(full, 2, 99); e != api.ErrState {
		t.Error("P26.3: ErrState comes first:", e)
	}
	last := api.Purse{Left: spans(1, 9), Sent: []api.Mark{{Party: 1, N: api.MaxSerial}}}
	if _, e := once.Give(last, 1, 1); e != api.ErrLimit {
		t.Error("P26.3: the last serial number:", e)
	}
	if _, e := once.Give(last, 2, 1); e != api.OK {
		t.Error("P26.3: another party:", e)
	}
	wide := api.Purse{Left: spans(2001, 2003), Spent: comb(1000, 1)}
	if r, use, e := once.Spend(wide); e != api.ErrLimit || use != 0 || !reflect.DeepEqual(r, wide) {
		t.Error("P26.2: too many spans:", use, e)
	}
	wide.Left = spans(2000, 2003)
	if r, use, e := once.Spend(wide); e != api.OK || use != 2000 || len(r.Spent) != 1000 || once.Check(r) != api.OK {
		t.Error("P26.2: a span grows:", use, e)
	}
}

func TestHear(t *testing.T) {
	p := api.Purse{ID: id, Me: 3, Left: spans(1, 4), Spent: spans(4, 6), Sent: []api.Mark{{Party: 0, N: 5}}, Heard: []api.Mark{{Party: 1, N: 7}}, Out: []api.Gift{{To: 0, Serial: 3, Uses: spans(20, 21)}, {To: 0, Serial: 4, Uses: spans(21, 22)}, {To: 0, Serial: 5, Uses: spans(22, 23)}}}
	gift := api.UseLetter{ID: id, Kind: api.UlGift, From: 1, To: 3, Serial: 8, Uses: spans(6, 9)}
	ack := api.UseLetter{ID: id, Kind: api.UlAck, From: 0, To: 3, Serial: 4}
	for i, l := range []struct {
		l      api.UseLetter
		change func(l *api.UseLetter)
	}{
		{gift, func(l *api.UseLetter) { l.ID[0]++ }}, {gift, func(l *api.UseLetter) { l.To = 4 }}, {gift, func(l *api.UseLetter) { l.From = 3 }}, {gift, func(l *api.UseLetter) { l.From = -1 }}, {gift, func(l *api.UseLetter) { l.From = 128 }}, {gift, func(l *api.UseLetter) { l.Serial = 0 }}, {gift, func(l *api.UseLetter) { l.Serial = 9 }}, {gift, func(l *api.UseLetter) { l.Serial = api.MaxSerial + 1 }},
		{gift, func(l *api.UseLetter) { l.Kind = 0 }}, {gift, func(l *api.UseLetter) { l.Kind = 3 }}, {gift, func(l *api.UseLetter) { l.Uses = nil }}, {gift, func(l *api.UseLetter) { l.Uses = spans(0, 1) }}, {gift, func(l *api.UseLetter) { l.Uses = spans(8, 9, 6, 7) }}, {gift, func(l *api.UseLetter) { l.Uses = comb(1001, 10) }}, {gift, func(l *api.UseLetter) { l.Uses = comb(1000, 10) }},
		{gift, func(l *api.UseLetter) { l.Uses = spans(3, 4, 10, 11) }}, {gift, func(l *api.UseLetter) { l.Uses = spans(5, 7) }}, {gift, func(l *api.UseLetter) { l.Uses = spans(api.MaxUses, api.MaxUses+2) }}, {gift, func(l *api.UseLetter) { l.Serial, l.Uses = 7, nil }}, {gift, func(l *api.UseLetter) { l.From = 2 }}, {gift, func(l *api.UseLetter) { l.Serial = math.MinInt }},
		{ack, func(l *api.UseLetter) { l.Uses = spans(1, 2) }}, {ack, func(l *api.UseLetter) { l.Serial = 6 }}, {ack, func(l *api.UseLetter) { l.Serial = 0 }}, {ack, func(l *api.UseLetter) { l.From = 1 }}, {ack, func(l *api.UseLetter) { l.ID[1]++ }}, {ack, func(l *api.UseLetter) { l.To = 0 }}, {ack, func(l *api.UseLetter) { l.Serial = 2 }},
	} {
		x := l.l
		l.change(&x)
		if q, answers := once.Hear(p, x); !reflect.DeepEqual(p, q) || answers != nil {
			t.Error("P26.5: a letter that changes nothing:", i, q, answers)
		}
	}
	old := clone(p)
	q, answers := once.Hear(p, gift)
	want := api.UseLetter{ID: id, Kind: api.UlAck, From: 3, To: 1, Serial: 8}
	if !slices.Equal(q.Left, spans(1, 4, 6, 9)) || !slices.Equal(q.Heard, []api.Mark{{Party: 1, N: 8}}) || !reflect.DeepEqual(answers, []api.UseLetter{want}) || !reflect.DeepEqual(p, old) {
		t.Error("P26.5: a gift:", q, answers)
	}
	gift.Serial = 3
	gift.Uses = spans(1, 2)
	want.Serial = 7
	if q, answers := once.Hear(p, gift); !reflect.DeepEqual(q, p) || !reflect.DeepEqual(answers, []api.UseLetter{want}) {
		t.Error("P26.5: an old gift:", q, answers)
	}
	q, answers = once.Hear(p, ack)
	if !reflect.DeepEqual(q.Out, p.Out[2:]) || answers != nil || !reflect.DeepEqual(p, old) {
		t.Error("P26.5: a confirmation:", q, answers)
	}
	fresh, answers := once.Hear(purse(t, 3, 0), api.UseLetter{ID: id, Kind: api.UlGift, From: 127, To: 3, Serial: 1, Uses: comb(1000, 1)})
	if len(fresh.Left) != 1000 || len(answers) != 1 || once.Check(fresh) != api.OK {
		t.Error("P26.5: a great gift")
	}
	if r, answers := once.Hear(fresh, api.UseLetter{ID: id, Kind: api.UlGift, From: 127, To: 3, Serial: 2, Uses: spans(2001, 2002)}); !reflect.DeepEqual(r, fresh) || answers != nil {
		t.Error("P26.5: too many spans")
	}
	if r, answers := once.Hear(fresh, api.UseLetter{ID: id, Kind: api.UlGift, From: 127, To: 3, Serial: 2, Uses: spans(2, 3, 2000, 2001)}); len(r.Left) != 999 || len(answers) != 1 {
		t.Error("P26.5: spans that become one:", len(r.Left))
	}
}

func TestFlyingKnown(t *testing.T) {
	a := api.Purse{ID: id, Me: 0, Sent: []api.Mark{{Party: 1, N: 3}, {Party: 2, N: 1}}, Out: []api.Gift{{To: 1, Serial: 2, Uses: spans(1, 3)}, {To: 1, Serial: 3, Uses: spans(3, 4)}, {To: 2, Serial: 1, Uses: spans(9, 10)}}}
	b := api.Purse{ID: id, Me: 1, Heard: []api.Mark{{Party: 0, N: 2}}, Left: spans(1, 3)}
	c := api.Purse{ID: id, Me: 2, Spent: spans(20, 21)}
	if f := once.Flying(a, b); !slices.Equal(f, spans(3, 4)) {
		t.Error("P26.6: Flying:", f)
	}
	if f := once.Flying(a, c); !slices.Equal(f, spans(9, 10)) || len(once.Flying(b, a)) != 0 || len(once.Flying(a, a)) != 0 {
		t.Error("P26.6: Flying:", f)
	}
	other := b
	other.ID[0]++
	if len(once.Flying(a, other)) != 0 {
		t.Error("P26.6: another ID")
	}
	if l, ok := once.Known([]api.Purse{a, b, c}); !ok || !slices.Equal(l, spans(1, 4, 9, 10, 20, 21)) {
		t.Error("P26.6: Known:", l, ok)
	}
	if l, ok := once.Known(nil); !ok || len(l) != 0 {
		t.Error("P26.6: Known of nothing")
	}
	for i, change := range []func(a, b, c *api.Purse){
		func(a, b, c *api.Purse) { b.Left = spans(1, 4) }, func(a, b, c *api.Purse) { c.Left = spans(2, 3) }, func(a, b, c *api.Purse) { c.Spent = spans(9, 10) }, func(a, b, c *api.Purse) { b.Heard = nil }, func(a, b, c *api.Purse) { a.Left = spans(20, 21) }, func(a, b, c *api.Purse) { a.Out[2].Uses = spans(3, 4) }, func(a, b, c *api.Purse) { b.Heard, b.Left, a.Out[0].Uses = nil, nil, spans(3, 4) },
	} {
		x, y, z := clone(a), clone(b), clone(c)
		change(&x, &y, &z)
		if _, ok := once.Known([]api.Purse{x, y, z}); ok {
			t.Error("P26.6: a use at two places:", i)
		}
	}
}

func TestProtocol(t *testing.T) {
	for seed := range 40 {
		r := rand.New(rand.NewSource(int64(seed)))
		const parties, uses = 4, 60
		var all []api.Purse
		for i := range parties {
			n := 0
			if i == 1 {
				n = uses
			}
			all = append(all, purse(t, i, n))
		}
		var mail []api.UseLetter
		spent := map[int]bool{}
		for range 400 {
			i := r.Intn(parties)
			switch r.Intn(5) {
			case 0:
				next, use, e := once.Spend(all[i])
				if e == api.OK && spent[use] {
					t.Fatal("P26.7: a use is spent twice:", seed, use)
				}
				if e == api.OK && r.Intn(3) == 0 {
					spent[use] = true
					all[i] = next
				}
			case 1:
				all[i], _ = once.Give(all[i], r.Intn(parties), 1+r.Intn(4))
			case 2:
				mail = append(mail, once.Letters(all[i])...)
			default:
				if len(mail) > 0 {
					l := mail[r.Intn(len(mail))]
					if r.Intn(9) == 0 {
						l.Kind = 3 - l.Kind
					}
					var answers []api.UseLetter
					all[l.To], answers = once.Hear(all[l.To], l)
					mail = append(mail, answers...)
					again, _ := once.Hear(all[l.To], l)
					if !reflect.DeepEqual(again, all[l.To]) {
						t.Fatal("P26.9: once more changes something:", seed, l)
					}
				}
			}
			for _, p := range all {
				if once.Check(p) != api.OK {
					t.Fatal("a purse is not right:", seed, p)
				}
			}
			if l, ok := once.Known(all); !ok || !slices.Equal(l, spans(1, uses+1)) {
				t.Fatal("P26.7:", seed, l, ok)
			}
		}
		rounds := 0
		for _, p := range all {
			rounds = max(rounds, len(p.Out))
		}
		for range rounds {
			for i := range all {
				for _, l := range once.Letters(all[i]) {
					var answers []api.UseLetter
					all[l.To], answers = once.Hear(all[l.To], l)
					for _, a := range answers {
						all[a.To], _ = once.Hear(all[a.To], a)
					}
				}
			}
		}
		for _, p := range all {
			if len(p.Out) != 0 {
				t.Fatal("P26.8: a gift is on the way:", seed, p)
			}
		}
	}
}
