package replylog_test

import (
	"math"
	"math/rand"
	"reflect"
	"slices"
	"testing"

	"weirgate/api"
	"weirgate/hash"
	"weirgate/merkle"
	"weirgate/replylog"
	"weirgate/seal"
	"weirgate/wire"
)

func key(site int) api.Key {
	return api.Key{Party: api.SiteParty + site, Serial: 2, Secret: "s", From: 5, To: 1000}
}

func at(lo, hi int) api.Period { return api.Period{Lo: lo, Hi: hi} }

func reply(seq int) api.Reply {
	return api.Reply{
		Site: 3, Seq: seq, Ask: api.Ask{Addr: "acme/a", Client: "c", Country: "de", Site: 3, At: at(10, 20)},
		Headers: []api.Header{{Name: "accept", Value: "x"}, {Name: "lang", Value: "y"}},
		Token:   api.Token{Customer: 9, Serial: 1, ID: "id", Conds: []api.Cond{{From: 1, To: 99, Pattern: "acme/*", Clients: []string{"a", "b"}, Countries: []string{"de"}, Sites: []int{3, 4}, Uses: 2}, {To: 7}}, Seal: api.Seal{1, 2}},
		Policy:  api.Digest{3}, Rule: api.Rule{Name: "r", Pattern: "acme/**", Tags: []string{"t", "u"}, Fresh: 1, Stale: 2, Down: 3, Negative: 4, Vary: []api.Vary{{Header: "lang", Values: []string{"de", "en"}, Default: "en"}}, Allow: api.Cond{To: 50, Sites: []int{3}}, Signed: true, Cost: 5, Program: "p"},
		Used: 1, Stamp: api.Stamp{Addr: "acme/a", Variant: "v", Status: 200, Size: 6, Body: api.Digest{4}, Tags: "t,u", At: at(1, 2), Gate: 10, Serial: 1, Seal: api.Seal{5}},
		Mode: 1, Span: api.Span{From: 2, To: 4}, Data: api.Digest{6}, Lease: api.Lease{Site: 3, Epoch: 7, Until: 30, Serial: 1, Seal: api.Seal{7}}, Heard: 8, Carrier: 11,
	}
}

func ledger(t *testing.T, n int) api.Ledger {
	t.Helper()
	l, e := replylog.New(3)
	for i := range n {
		if l, e = replylog.Append(l, reply(i)); e != api.OK {
			t.Fatal("P44.3:", i, e)
		}
	}
	return l
}

func sealed(t *testing.T, l api.Ledger, p api.Period) (api.Ledger, api.Head) {
	t.Helper()
	l, h, e := replylog.Seal(l, key(3), p)
	if e != api.OK || !replylog.Valid(l) {
		t.Fatal("P44.4, P44.8:", e)
	}
	return l, h
}

func ints(l ...int) string { return string(wire.Ints(l)) }

func strings(l ...string) string { return string(wire.Strings(l)) }

func TestParts(t *testing.T) {
	r := reply(17)
	bytes := func(b [16]byte) string { return string(b[:]) }
	want := []string{
		ints(3, 17, 1, 2, 4, 8, 11, 1, 2, 2, 2, 1), bytes(r.Data), bytes(r.Policy),
		"acme/a", "c", "de", ints(3, 10, 20),
		"accept", "x", "lang", "y",
		ints(9, 1), "id", bytes(r.Token.Seal), ints(1, 99, 2), "acme/*", strings("a", "b"), strings("de"), ints(3, 4), ints(0, 7, 0), "", strings(), strings(), ints(),
		"r", "acme/**", "p", ints(1, 2, 3, 4, 1, 5), "t", "u", "lang", "en", strings("de", "en"), ints(0, 50, 0), "", strings(), strings(), ints(3),
	}
	want = append(append(append(append(want, seal.StampParts(r.Stamp)...), bytes(r.Stamp.Seal)), seal.LeaseParts(r.Lease)...), bytes(r.Lease.Seal))
	if got := replylog.Parts(r); !reflect.DeepEqual(got, want) {
		t.Errorf("P44.1: %q\n%q", got, want)
	}
	if replylog.Leaf(r) != merkle.Leaf(strings(want...)) {
		t.Error("P44.1: Leaf")
	}
	if replylog.Data("abc") != hash.Of(api.TagData, "abc") || replylog.Data("") != hash.Of(api.TagData, "") {
		t.Error("P44.1: Data")
	}
	r.Rule.Signed = false
	if got := replylog.Parts(r); got[28] != want[28] || got[27] == want[27] {
		t.Error("P44.1: Signed:", got[27])
	}
}

// TestLeavesDiffer changes every field of a reply, wherever it is.
func TestLeavesDiffer(t *testing.T) {
	seen := map[api.Digest]string{replylog.Leaf(reply(1)): "unchanged"}
	n := 0
	for {
		r := reply(1)
		left := n
		name, found := change(reflect.ValueOf(&r).Elem(), "reply", &left)
		if !found {
			break
		}
		leaf := replylog.Leaf(r)
		if before, twice := seen[leaf]; twice {
			t.Error("P44.9: the same texts:", name, before)
		}
		seen[leaf] = name
		n++
	}
	if n < 80 {
		t.Error("few fields:", n)
	}
}

// change changes the field with the number *left among all.
func change(v reflect.Value, name string, left *int) (string, bool) {
	switch v.Kind() {
	case reflect.Struct:
		for i := range v.NumField() {
			if found, ok := change(v.Field(i), name+"."+v.Type().Field(i).Name, left); ok {
				return found, true
			}
		}
	case reflect.Slice, reflect.Array:
		if v.Kind() == reflect.Slice {
			if *left == 0 {
				*left--
				v.Set(reflect.Append(v, reflect.New(v.Type().Elem()).Elem()))
				return name + " longer", true
			}
			*left--
		}
		for i := range v.Len() {
			if v.Kind() == reflect.Array && i > 1 {
				break
			}
			if found, ok := change(v.Index(i), name+" element", left); ok {
				return found, true
			}
		}
	default:
		*left--
		if *left == -1 {
			switch v.Kind() {
			case reflect.Int:
				v.SetInt(v.Int() + 100)
			case reflect.Uint8:
				v.SetUint(v.Uint() ^ 0x80)
			case reflect.String:
				v.SetString(v.String() + "x")
			case reflect.Bool:
				v.SetBool(!v.Bool())
			}
			return name, true
		}
	}
	return "", false
}

func TestExamples(t *testing.T) {
	if l, e := replylog.New(3); e != api.OK || !reflect.DeepEqual(l, api.Ledger{Site: 3}) || !replylog.Valid(l) {
		t.Error("P44.2:", l, e)
	}
	for _, site := range []int{-1, 64, math.MaxInt} {
		if l, e := replylog.New(site); e != api.ErrArg || !reflect.DeepEqual(l, api.Ledger{}) {
			t.Error("P44.2:", site, e)
		}
	}
	l := ledger(t, 1)
	for _, r := range []api.Reply{reply(0), reply(2), reply(-1), {Site: 4, Seq: 1}} {
		if next, e := replylog.Append(l, r); e != api.ErrArg || !reflect.DeepEqual(next, l) {
			t.Error("P44.3: with an error, the ledger:", e)
		}
	}
	l, h := sealed(t, l, at(10, 20))
	want := seal.SealHead(key(3), api.Head{Site: 3, Size: 1, Root: replylog.Leaf(reply(0)), At: at(10, 20)})
	if h != want || !slices.Equal(l.Heads, []api.Head{want}) {
		t.Error("P44.4:", h)
	}
	s, e := replylog.Proof(l, 0, h)
	if e != api.OK || !reflect.DeepEqual(s.Reply, reply(0)) || s.Head != h || len(s.Path) != 0 {
		t.Error("P44.5:", s, e)
	}
	if e := replylog.CheckShown([]api.Key{key(3)}, s); e != api.OK {
		t.Error("P44.6:", e)
	}
	s.Reply.Mode++
	if e := replylog.CheckShown([]api.Key{key(3)}, s); e != api.ErrForm {
		t.Error("P44.6: another mode:", e)
	}
}

func TestSeal(t *testing.T) {
	l, _ := sealed(t, ledger(t, 2), at(10, 20))
	bad := key(3)
	bad.Secret = ""
	for i, x := range []struct {
		k  api.Key
		at api.Period
		e  api.Errno
	}{
		{key(3), at(10, 10), 0}, {key(3), at(500, 2000), 0}, {bad, at(10, 20), api.ErrArg}, {key(4), at(10, 20), api.ErrArg}, {key(3), at(20, 10), api.ErrArg}, {key(3), at(-1, 10), api.ErrArg}, {key(3), at(10, api.MaxTime+1), api.ErrArg}, {key(3), at(9, 50), api.ErrTime}, {key(4), at(9, 50), api.ErrArg},
	} {
		next, h, e := replylog.Seal(l, x.k, x.at)
		if e != x.e || (e == api.OK) != (len(next.Heads) == 2) || e != api.OK && (!reflect.DeepEqual(next, l) || h != (api.Head{})) || !replylog.Valid(next) {
			t.Error("P44.4:", i, e)
		}
	}
	if _, h, e := replylog.Seal(api.Ledger{Site: 3}, key(3), at(0, 0)); e != api.OK || h.Size != 0 || h.Root != merkle.Root(nil) {
		t.Error("P44.4: no replies:", h, e)
	}
	a, _ := sealed(t, l, at(11, 12))
	b, _ := sealed(t, l, at(13, 14))
	if a.Heads[1].At.Lo != 11 || b.Heads[1].At.Lo != 13 || len(l.Heads) != 1 {
		t.Error("P44.4: ledgers share memory")
	}
}

func TestValid(t *testing.T) {
	l, _ := sealed(t, ledger(t, 2), at(10, 20))
	for i := 2; i < 5; i++ {
		l, _ = replylog.Append(l, reply(i))
	}
	l, _ = sealed(t, l, at(10, 15))
	l, _ = sealed(t, l, at(12, 15))
	for i, change := range []func(l *api.Ledger){
		func(l *api.Ledger) { l.Site = 4 }, func(l *api.Ledger) { l.Replies[2].Site = 4 }, func(l *api.Ledger) { l.Replies[2].Seq = 3 }, func(l *api.Ledger) { l.Replies[2].Mode++ }, func(l *api.Ledger) { l.Replies[4].Mode++ }, func(l *api.Ledger) { l.Replies = l.Replies[:4] }, func(l *api.Ledger) { l.Replies = append(l.Replies, reply(5)) },
		func(l *api.Ledger) { l.Tree.Size = 4 }, func(l *api.Ledger) { l.Tree.Tops[0][0]++ }, func(l *api.Ledger) { l.Tree.Tops = l.Tree.Tops[:1] }, func(l *api.Ledger) { l.Tree.Tops = append(l.Tree.Tops, api.Digest{}) },
		func(l *api.Ledger) { l.Heads[0].Site = 4 }, func(l *api.Ledger) { l.Heads[0].Size = 1 }, func(l *api.Ledger) { l.Heads[0].Size = -1 }, func(l *api.Ledger) { l.Heads[2].Size = 6 }, func(l *api.Ledger) { l.Heads[0].Root[3]++ }, func(l *api.Ledger) { l.Heads[2].Root[3]++ }, func(l *api.Ledger) { l.Heads[1].At.Lo = 9 }, func(l *api.Ledger) { l.Heads[1], l.Heads[0] = l.Heads[0], l.Heads[1] },
	} {
		c := api.Ledger{Site: l.Site, Replies: slices.Clone(l.Replies), Tree: api.Peaks{Size: l.Tree.Size, Tops: slices.Clone(l.Tree.Tops)}, Heads: slices.Clone(l.Heads)}
		if !replylog.Valid(c) {
			t.Fatal("P44.2: a valid ledger")
		}
		if change(&c); replylog.Valid(c) {
			t.Error("P44.2:", i)
		}
	}
	for i, l := range []api.Ledger{{Site: -1}, {Site: 64}, {Heads: []api.Head{{}}}, {Replies: make([]api.Reply, api.MaxReplies+1)}} {
		if replylog.Valid(l) {
			t.Error("P44.2: not valid:", i)
		}
	}
}

func TestLimit(t *testing.T) {
	l := api.Ledger{Site: 3}
	for i := range api.MaxReplies {
		l.Replies = append(l.Replies, api.Reply{Site: 3, Seq: i})
		l.Tree, _ = merkle.Append(l.Tree, replylog.Leaf(l.Replies[i]))
	}
	if !replylog.Valid(l) {
		t.Error("P44.2: the longest ledger")
	}
	if next, e := replylog.Append(l, api.Reply{Site: 3, Seq: api.MaxReplies}); e != api.ErrLimit || len(next.Replies) != api.MaxReplies {
		t.Error("P44.3:", e)
	}
	if _, e := replylog.Append(l, api.Reply{Site: 3}); e != api.ErrArg {
		t.Error("P44.3: the errors in order:", e)
	}
}

func TestMemory(t *testing.T) {
	l := ledger(t, 3)
	a, _ := replylog.Append(l, reply(3))
	other := reply(3)
	other.Mode = 2
	b, _ := replylog.Append(l, other)
	c, _ := replylog.Append(l, reply(3))
	c.Replies[0].Mode, c.Tree.Tops[0][0] = 77, 77
	if !replylog.Valid(a) || !replylog.Valid(b) || !replylog.Valid(l) || a.Replies[3].Mode != 1 || b.Replies[3].Mode != 2 {
		t.Error("P44.3: ledgers share memory")
	}
}

func TestProofs(t *testing.T) {
	r := rand.New(rand.NewSource(44))
	ring := []api.Key{key(3), key(4)}
	for range 20 {
		l := api.Ledger{Site: 3}
		for range 12 {
			for range r.Intn(4) {
				x := reply(len(l.Replies))
				x.Used = r.Intn(5)
				l, _ = replylog.Append(l, x)
			}
			l, _ = sealed(t, l, at(10+len(l.Heads), 40))
		}
		leaves := []api.Digest{}
		for _, x := range l.Replies {
			leaves = append(leaves, replylog.Leaf(x))
		}
		for _, h := range l.Heads {
			checkReplies(t, r, ring, l, h, leaves)
			for _, old := range l.Heads {
				path, e := replylog.Consistency(l, old, h)
				want, e2 := merkle.Consistency(leaves[:h.Size], old.Size)
				if e != e2 || old.Size > h.Size != (e == api.ErrArg) || !slices.Equal(path, want) {
					t.Fatal("P44.5: Consistency:", e, old.Size, h.Size)
				}
				if c := replylog.CheckHeads(ring, old, h, path); e == api.OK && c != api.OK || e != api.OK && c != api.ErrForm {
					t.Fatal("P44.8: CheckHeads:", c)
				}
			}
		}
	}
}

func checkReplies(t *testing.T, r *rand.Rand, ring []api.Key, l api.Ledger, h api.Head, leaves []api.Digest) {
	t.Helper()
	for seq := range h.Size {
		s, e := replylog.Proof(l, seq, h)
		path, _ := merkle.Inclusion(leaves[:h.Size], seq)
		if e != api.OK || !slices.Equal(s.Path, path) || s.Head != h || s.Reply.Seq != seq || replylog.CheckShown(ring, s) != api.OK {
			t.Fatal("P44.8: Proof:", seq, e)
		}
		s.Reply.Carrier += 1 + r.Intn(9)
		if replylog.CheckShown(ring, s) != api.ErrForm {
			t.Fatal("P44.10:", seq)
		}
	}
	for _, seq := range []int{-1, h.Size, math.MaxInt} {
		if s, e := replylog.Proof(l, seq, h); e != api.ErrArg || !reflect.DeepEqual(s, api.Shown{}) {
			t.Fatal("P44.5: no place:", seq, e)
		}
	}
	h.At.Hi++
	if _, e := replylog.Proof(l, -1, h); e != api.ErrName {
		t.Fatal("P44.5: no head:", e)
	}
	if path, e := replylog.Consistency(l, h, l.Heads[0]); e != api.ErrName || path != nil {
		t.Fatal("P44.5: no old head:", e)
	}
	if path, e := replylog.Consistency(l, l.Heads[0], h); e != api.ErrName || path != nil {
		t.Fatal("P44.5: no new head:", e)
	}
}

func TestChecks(t *testing.T) {
	ring := []api.Key{key(3), key(4)}
	l, a := sealed(t, ledger(t, 3), at(30, 40))
	l, _ = replylog.Append(l, reply(3))
	l, b := sealed(t, l, at(30, 35))
	shown, _ := replylog.Proof(l, 2, b)
	for i, x := range []struct {
		change func(s *api.Shown)
		e      api.Errno
	}{
		{func(s *api.Shown) {}, 0}, {func(s *api.Shown) { s.Reply.Site = 4 }, api.ErrArg}, {func(s *api.Shown) { s.Reply.Site, s.Head.Site = 64, 64 }, api.ErrArg}, {func(s *api.Shown) { s.Reply.Site, s.Head.Site = 4, 4 }, api.ErrSeal}, {func(s *api.Shown) { s.Reply.Site, s.Head.Site = 5, 5 }, api.ErrName},
		{func(s *api.Shown) { s.Head.Serial = 9; s.Path = nil }, api.ErrName}, {func(s *api.Shown) { s.Head.At.Hi = 1000 }, api.ErrTime}, {func(s *api.Shown) { s.Head.Root[0]++ }, api.ErrSeal}, {func(s *api.Shown) { s.Head.Seal[0]++; s.Reply.Mode++ }, api.ErrSeal},
		{func(s *api.Shown) { s.Reply.Seq = 1 }, api.ErrForm}, {func(s *api.Shown) { s.Path = s.Path[1:] }, api.ErrForm}, {func(s *api.Shown) { s.Path = append(slices.Clone(s.Path), api.Digest{}) }, api.ErrForm},
	} {
		s := shown
		x.change(&s)
		if e := replylog.CheckShown(ring, s); e != x.e {
			t.Error("P44.6: CheckShown:", i, e)
		}
	}
	path, _ := replylog.Consistency(l, a, b)
	resealed := func(h api.Head, change func(h *api.Head)) api.Head {
		change(&h)
		return seal.SealHead(key(h.Site), h)
	}
	early := resealed(b, func(h *api.Head) { h.At = at(10, 29) })
	wrong := a
	wrong.Seal[0]++
	for i, x := range []struct {
		old, new api.Head
		path     []api.Digest
		e        api.Errno
	}{
		{a, b, path, 0}, {a, resealed(b, func(h *api.Head) { h.At = at(10, 30) }), path, 0}, {a, resealed(b, func(h *api.Head) { h.Site = 4 }), path, api.ErrArg}, {wrong, early, path, api.ErrSeal}, {b, wrong, path, api.ErrSeal}, {a, early, nil, api.ErrTime}, {a, b, nil, api.ErrForm}, {b, a, path, api.ErrForm},
		{resealed(a, func(h *api.Head) { h.Root[1]++ }), b, path, api.ErrForm}, {a, resealed(b, func(h *api.Head) { h.Root[1]++ }), path, api.ErrForm},
	} {
		if e := replylog.CheckHeads(ring, x.old, x.new, x.path); e != x.e {
			t.Error("P44.6: CheckHeads:", i, e)
		}
	}
	for i, x := range []struct {
		b      api.Head
		forked bool
	}{
		{a, false}, {b, false}, {resealed(a, func(h *api.Head) { h.Root[1]++ }), true}, {resealed(a, func(h *api.Head) { h.Root[1]++; h.At = at(50, 60) }), true}, {resealed(a, func(h *api.Head) { h.Root[1]++; h.Site = 4 }), false}, {resealed(a, func(h *api.Head) { h.Root[1]++; h.At = at(0, 0) }), false}, {resealed(a, func(h *api.Head) { h.Root[1]++; h.Size++ }), false}, {wrong, false},
	} {
		if replylog.Forked(ring, a, x.b) != x.forked || replylog.Forked(ring, x.b, a) != x.forked {
			t.Error("P44.7:", i)
		}
	}
}
