package entry_test

import (
	"math"
	"math/rand"
	"reflect"
	"slices"
	"strings"
	"testing"

	"weirgate/api"
	"weirgate/entry"
	"weirgate/origin"
	"weirgate/ranges"
	"weirgate/wire"
)

func at(lo, hi int) api.Period { return api.Period{Lo: lo, Hi: hi} }

func span(from, to int) api.Span { return api.Span{From: from, To: to} }

// stampOf returns a stamp of bytes.
func stampOf(bytes string) api.Stamp {
	return api.Stamp{Addr: "acme/a", Variant: "v", Status: 200, Size: len(bytes), Body: origin.Digest(bytes), Tags: "x", At: at(100, 110), Gate: 7, Serial: 1, Seal: api.Seal{9}}
}

func begin(t *testing.T, s api.Stamp) api.Entry {
	t.Helper()
	e, why := entry.Begin(s)
	if why != api.OK || !entry.Valid(e) {
		t.Fatal("Begin:", why)
	}
	return e
}

func put(t *testing.T, e api.Entry, from int, bytes string) api.Entry {
	t.Helper()
	f, why := entry.Put(e, from, bytes)
	if why != api.OK || !entry.Valid(f) {
		t.Fatal("Put:", why)
	}
	return f
}

func whole(t *testing.T, s api.Stamp, bytes string) api.Entry { return put(t, begin(t, s), 0, bytes) }

func rule() api.Rule { return api.Rule{Fresh: 50, Stale: 20, Down: 100, Negative: 10} }

func TestBegin(t *testing.T) {
	e := begin(t, stampOf("abcdef"))
	if !reflect.DeepEqual(e, api.Entry{Stamp: stampOf("abcdef"), Bytes: "\x00\x00\x00\x00\x00\x00"}) {
		t.Error("P35.1:", e)
	}
	if e := begin(t, stampOf("")); !reflect.DeepEqual(e, api.Entry{Stamp: stampOf(""), Whole: true}) {
		t.Error("P35.1: no bytes:", e)
	}
	long := strings.Repeat("x", api.MaxText)
	big := api.Stamp{Addr: long, Variant: long, Tags: long, Status: 599, Size: api.MaxEntry, At: at(0, api.MaxTime), Gate: 1 << 40, Serial: 1 << 40}
	begin(t, big)
	for i, x := range []struct {
		change func(s *api.Stamp)
		e      api.Errno
	}{
		{func(s *api.Stamp) { s.Status = 99 }, 1}, {func(s *api.Stamp) { s.Status = 600 }, 1}, {func(s *api.Stamp) { s.Size = -1 }, 1}, {func(s *api.Stamp) { s.Size = api.MaxBytes + 1 }, 1}, {func(s *api.Stamp) { s.Size = api.MaxBytes }, 2}, {func(s *api.Stamp) { s.Size = api.MaxEntry + 1 }, 2}, {func(s *api.Stamp) { s.At = at(-1, 5) }, 1}, {func(s *api.Stamp) { s.At = at(5, 4) }, 1}, {func(s *api.Stamp) { s.At = at(5, api.MaxTime+1) }, 1},
		{func(s *api.Stamp) { s.Addr += "x" }, 1}, {func(s *api.Stamp) { s.Variant += "x" }, 1}, {func(s *api.Stamp) { s.Tags += "x" }, 1}, {func(s *api.Stamp) { s.Gate = -1 }, 1}, {func(s *api.Stamp) { s.Gate = 1<<40 + 1 }, 1}, {func(s *api.Stamp) { s.Serial = -1 }, 1}, {func(s *api.Stamp) { s.Serial = 1<<40 + 1 }, 1}, {func(s *api.Stamp) { s.Size = 0 }, 8}, {func(s *api.Stamp) { s.Size, s.Gate = api.MaxEntry+1, -1 }, 1},
	} {
		s := big
		x.change(&s)
		if e, why := entry.Begin(s); why != x.e || !reflect.DeepEqual(e, api.Entry{}) {
			t.Error("P35.1:", i, why)
		}
		if entry.Valid(api.Entry{Stamp: s, Bytes: strings.Repeat("\x00", min(api.MaxEntry+1, max(0, s.Size)))}) {
			t.Error("P35.1: Valid:", i)
		}
	}
}

func TestValid(t *testing.T) {
	good := put(t, begin(t, stampOf("abcdef")), 1, "bc")
	full := whole(t, stampOf("abcdef"), "abcdef")
	for i, x := range []struct {
		e      api.Entry
		change func(e *api.Entry)
	}{
		{good, func(e *api.Entry) { e.Bytes = "abc\x00\x00\x00" }}, {good, func(e *api.Entry) { e.Bytes = "\x00bc\x00\x00f" }}, {good, func(e *api.Entry) { e.Bytes = "\x00bc\x00\x00" }}, {good, func(e *api.Entry) { e.Bytes += "\x00" }}, {good, func(e *api.Entry) { e.Whole = true }}, {good, func(e *api.Entry) { e.Have = []api.Span{span(1, 2), span(2, 3)} }}, {good, func(e *api.Entry) { e.Have = []api.Span{span(1, 7)} }}, {good, func(e *api.Entry) { e.Have = []api.Span{span(-1, 3)} }},
		{good, func(e *api.Entry) { e.Have = nil }}, {good, func(e *api.Entry) { e.Stamp.Status = 0 }}, {full, func(e *api.Entry) { e.Whole = false }}, {full, func(e *api.Entry) { e.Stamp.Body[0]++ }}, {full, func(e *api.Entry) { e.Bytes = "abcdeg" }}, {full, func(e *api.Entry) { e.Have = []api.Span{span(0, 5)} }},
		{begin(t, stampOf("")), func(e *api.Entry) { e.Whole = false }}, {begin(t, stampOf("")), func(e *api.Entry) { e.Stamp.Body[0]++ }},
	} {
		x.change(&x.e)
		if entry.Valid(x.e) {
			t.Error("P35.1: an entry that is not valid:", i)
		}
	}
	good.Soft = true
	if !entry.Valid(good) || !entry.Valid(full) {
		t.Error("P35.1: valid entries")
	}
}

func TestPut(t *testing.T) {
	e := put(t, begin(t, stampOf("abcdef")), 0, "abc")
	if e.Whole || !slices.Equal(entry.Missing(e, span(0, 9)), []api.Span{span(3, 6)}) || e.Bytes != "abc\x00\x00\x00" {
		t.Error("P35.2:", e)
	}
	w := put(t, e, 3, "def")
	if !w.Whole || w.Bytes != "abcdef" {
		t.Error("P35.2:", w)
	}
	if f, why := entry.Put(w, 0, "x"); why != api.ErrState || !reflect.DeepEqual(f, w) {
		t.Error("P35.2:", f, why)
	}
	if _, why := entry.Put(w, -1, "x"); why != api.ErrState {
		t.Error("P35.2: ErrState comes first:", why)
	}
	soft := e
	soft.Soft = true
	none := begin(t, stampOf("abcdef"))
	none.Soft = true
	if f, why := entry.Put(soft, 3, "deg"); why != api.ErrSeal || !reflect.DeepEqual(f, none) {
		t.Error("P35.2: other bytes:", f, why)
	}
	for i, x := range []struct {
		from  int
		bytes string
	}{{-1, "a"}, {6, "a"}, {4, "abc"}, {7, ""}, {math.MinInt, "a"}, {math.MaxInt, "a"}, {0, "abcdefg"}, {-1, ""}} {
		if f, why := entry.Put(e, x.from, x.bytes); why != api.ErrArg || !reflect.DeepEqual(f, e) {
			t.Error("P35.2: ErrArg:", i, why)
		}
	}
	if f := put(t, e, 6, ""); !reflect.DeepEqual(f, e) {
		t.Error("P35.2: no bytes:", f)
	}
	wrong := put(t, begin(t, stampOf("abcdef")), 0, "xyz")
	if f := put(t, put(t, wrong, 3, "de"), 0, "abc"); f.Bytes != "abcde\x00" || len(f.Have) != 1 {
		t.Error("P35.2: bytes are replaced:", f)
	}
	old := slices.Clone(e.Have)
	f := put(t, e, 5, "f")
	f.Have[0] = span(9, 9)
	if !slices.Equal(old, e.Have) {
		t.Error("P35.2: memory is shared")
	}
	two := put(t, put(t, begin(t, stampOf("abcdef")), 1, "b"), 4, "e")
	for i, x := range []struct {
		s    api.Span
		want []api.Span
	}{{span(0, 6), []api.Span{span(0, 1), span(2, 4), span(5, 6)}}, {span(-9, 99), []api.Span{span(0, 1), span(2, 4), span(5, 6)}}, {span(3, 5), []api.Span{span(3, 4)}}, {span(1, 2), nil}, {span(6, 9), nil}, {span(5, 3), nil}, {span(math.MinInt, math.MaxInt), []api.Span{span(0, 1), span(2, 4), span(5, 6)}}} {
		if l := entry.Missing(two, x.s); !slices.Equal(l, x.want) {
			t.Error("P35.2: Missing:", i, l)
		}
	}
}

func TestBetter(t *testing.T) {
	base := stampOf("abc")
	changes := []func(s *api.Stamp){
		func(s *api.Stamp) { s.Seal[15]++ }, func(s *api.Stamp) { s.Serial++ }, func(s *api.Stamp) { s.Gate++ }, func(s *api.Stamp) { s.Tags = "y" }, func(s *api.Stamp) { s.Status++ }, func(s *api.Stamp) { s.Size++ }, func(s *api.Stamp) { s.Body[15]++ }, func(s *api.Stamp) { s.At.Hi++ }, func(s *api.Stamp) { s.At.Lo++ },
	}
	base.Body = api.Digest{5, 5}
	for i, up := range changes {
		a := base
		up(&a)
		if !entry.Better(a, base) || entry.Better(base, a) || entry.Better(a, a) {
			t.Error("P35.3:", i)
		}
		for k := range i { // what counts less speaks against it
			b := base
			changes[k](&b)
			if !entry.Better(a, b) || entry.Better(b, a) {
				t.Error("P35.3:", i, k)
			}
		}
	}
	other := base
	other.Addr, other.Variant = "z", "z"
	if entry.Better(other, base) || entry.Better(base, other) {
		t.Error("P35.3: the address does not matter")
	}
}

func TestMerge(t *testing.T) {
	old, later := stampOf("abcdef"), stampOf("abcdef")
	later.At = at(200, 210)
	changed := stampOf("ABCDEF")
	changed.At = at(150, 160)
	a, b := put(t, begin(t, old), 0, "abc"), put(t, begin(t, later), 2, "cd")
	a.Soft = true
	m, why := entry.Merge(a, b)
	want := put(t, begin(t, later), 0, "abcd")
	if why != api.OK || !reflect.DeepEqual(m, want) {
		t.Error("P35.4: the same content:", m, why)
	}
	if n, _ := entry.Merge(b, a); !reflect.DeepEqual(n, want) {
		t.Error("P35.4: the other order:", n)
	}
	b = put(t, b, 3, "def")
	if m, _ := entry.Merge(a, b); !m.Whole || m.Bytes != "abcdef" || m.Soft {
		t.Error("P35.4: all bytes:", m)
	}
	wrong := put(t, begin(t, later), 2, "XX")
	if m, _ := entry.Merge(a, wrong); m.Bytes != "abXX\x00\x00" {
		t.Error("P35.4: those of the second one:", m)
	}
	if m, _ := entry.Merge(put(t, a, 4, "ef"), wrong); !reflect.DeepEqual(m, begin(t, later)) {
		t.Error("P35.4: all bytes, but not those of the stamp:", m)
	}
	// Bytes of the second one take the place of wrong ones; it does not matter that all are there before that.
	left, right := put(t, begin(t, old), 0, "XXXd"), put(t, put(t, begin(t, later), 0, "abc"), 4, "ef")
	if m, _ := entry.Merge(left, right); !m.Whole || m.Bytes != "abcdef" {
		t.Error("P35.4: all bytes:", m)
	}
	full := whole(t, old, "abcdef")
	if m, _ := entry.Merge(full, wrong); !m.Whole || m.Bytes != "abcdef" || m.Stamp != later {
		t.Error("P35.4: one is whole:", m)
	}
	if m, _ := entry.Merge(wrong, full); !m.Whole || m.Bytes != "abcdef" || m.Stamp != later {
		t.Error("P35.4: one is whole:", m)
	}
	c := put(t, begin(t, changed), 0, "A")
	c.Soft = true
	if m, _ := entry.Merge(full, c); !reflect.DeepEqual(m, c) {
		t.Error("P35.4: another content:", m)
	}
	if m, _ := entry.Merge(c, b); !reflect.DeepEqual(m, b) {
		t.Error("P35.4: another content:", m)
	}
	soft := full
	soft.Soft = true
	for _, x := range [][2]api.Entry{{soft, full}, {full, soft}, {soft, soft}} {
		if m, _ := entry.Merge(x[0], x[1]); !reflect.DeepEqual(m, soft) {
			t.Error("P35.4: soft:", m)
		}
	}
	for i, change := range []func(s *api.Stamp){func(s *api.Stamp) { s.Addr = "acme/b" }, func(s *api.Stamp) { s.Variant = "w" }} {
		s := old
		change(&s)
		if m, why := entry.Merge(full, begin(t, s)); why != api.ErrName || !reflect.DeepEqual(m, api.Entry{}) {
			t.Error("P35.4: ErrName:", i, why)
		}
	}
	tagged := stampOf("abcdef")
	tagged.Tags = "y"
	if m, _ := entry.Merge(full, begin(t, tagged)); m.Whole || m.Stamp != tagged {
		t.Error("P35.4: other tags are another content:", m)
	}
}

func randomEntry(t *testing.T, r *rand.Rand) api.Entry {
	text := []string{"abcde", "fghij"}[r.Intn(2)]
	s := stampOf(text)
	s.At = at(r.Intn(3), 3+r.Intn(2))
	s.Tags = []string{"", "x"}[r.Intn(2)]
	e := begin(t, s)
	for range r.Intn(4) {
		from := r.Intn(5)
		if !e.Whole {
			e = put(t, e, from, text[from:from+r.Intn(6-from)])
		}
	}
	e.Soft = r.Intn(3) == 0
	return e
}

func TestLaws(t *testing.T) {
	r := rand.New(rand.NewSource(1))
	for range 3000 {
		a, b, c := randomEntry(t, r), randomEntry(t, r), randomEntry(t, r)
		m, why := entry.Merge(a, b)
		n, _ := entry.Merge(b, a)
		if why != api.OK || !entry.Valid(m) || !reflect.DeepEqual(m, n) {
			t.Fatal("P35.10: the order:", a, b, m, n)
		}
		if self, _ := entry.Merge(a, a); !reflect.DeepEqual(self, a) {
			t.Fatal("P35.10: with itself:", a, self)
		}
		if entry.Better(a.Stamp, m.Stamp) || entry.Better(b.Stamp, m.Stamp) {
			t.Fatal("P35.10: the stamp is worse:", a, b, m)
		}
		bc, _ := entry.Merge(b, c)
		x, _ := entry.Merge(m, c)
		y, _ := entry.Merge(a, bc)
		if x.Stamp != y.Stamp {
			t.Fatal("P35.10: not associative:", a, b, c)
		}
		if m.Whole && origin.Digest(m.Bytes) != m.Stamp.Body {
			t.Fatal("P35.9:", m)
		}
		for _, e := range []api.Entry{a, m} {
			s := entry.Pack(e)
			if back, why := entry.Unpack(s); why != api.OK || !reflect.DeepEqual(back, e) {
				t.Fatal("P35.12:", e, back, why)
			}
		}
		now := at(r.Intn(150), 150+r.Intn(200))
		mode := r.Intn(3)
		state := entry.State(m, rule(), now, mode)
		later := at(r.Intn(now.Hi), now.Hi+r.Intn(50))
		if state == api.EnNo && entry.State(m, rule(), later, mode) != api.EnNo || entry.State(m, rule(), later, mode) == api.EnFresh && state != api.EnFresh {
			t.Fatal("P35.11: a later period:", m, now, later, mode)
		}
	}
}

func TestStates(t *testing.T) {
	e := whole(t, stampOf("abcdef"), "abcdef")
	soft, negative, part := e, e, begin(t, stampOf("abcdef"))
	soft.Soft = true
	negative.Stamp.Status = 404
	for i, x := range []struct {
		e        api.Entry
		lo, hi   int
		mode     int
		age, wan int
	}{
		{e, 140, 150, api.MoPlain, 50, api.EnFresh}, {e, 150, 151, api.MoPlain, 51, api.EnNo}, {e, 150, 151, api.MoFetching, 51, api.EnStale}, {e, 150, 151, api.MoDown, 51, api.EnStale}, {e, 100, 170, api.MoFetching, 70, api.EnStale}, {e, 100, 171, api.MoFetching, 71, api.EnNo}, {e, 250, 251, api.MoDown, 151, api.EnNo}, {e, 250, 250, api.MoDown, 150, api.EnStale}, {e, 250, 251, api.MoFetching, 151, api.EnNo},
		{e, 5, 50, api.MoPlain, 0, api.EnFresh}, {soft, 100, 100, api.MoPlain, 0, api.EnNo}, {soft, 100, 100, api.MoFetching, 0, api.EnStale}, {soft, 100, 100, api.MoDown, 0, api.EnStale}, {soft, 100, 171, api.MoFetching, 71, api.EnNo}, {negative, 100, 110, api.MoPlain, 10, api.EnFresh}, {negative, 100, 111, api.MoDown, 11, api.EnNo}, {negative, 100, 111, api.MoFetching, 11, api.EnNo},
		{part, 100, 100, api.MoPlain, 0, api.EnNo}, {part, 100, 100, api.MoDown, 0, api.EnNo}, {e, 100, 150, api.MoDown, 50, api.EnFresh},
	} {
		now := at(x.lo, x.hi)
		if a := entry.Age(x.e, now); a != x.age {
			t.Error("P35.6: Age:", i, a)
		}
		if s := entry.State(x.e, rule(), now, x.mode); s != x.wan {
			t.Error("P35.6: State:", i, s)
		}
	}
	for state, want := range map[int]bool{api.CoFresh: true, api.CoStale: true, api.CoRemoved: false, 3: false, -1: false} {
		f, ok := entry.Hit(e, state)
		if ok != want || ok && (f.Soft != (state == api.CoStale) || !entry.Valid(f)) || !ok && !reflect.DeepEqual(f, api.Entry{}) {
			t.Error("P35.5:", state, ok)
		}
		if g, ok := entry.Hit(soft, state); ok && !g.Soft {
			t.Error("P35.5: soft for ever:", state)
		}
	}
	for i, x := range []struct {
		e    api.Entry
		s    api.Span
		want string
		err  api.Errno
	}{{e, span(1, 3), "bc", 0}, {e, span(0, 6), "abcdef", 0}, {e, span(6, 6), "", 0}, {e, span(-1, 3), "", 70}, {e, span(3, 2), "", 70}, {e, span(0, 7), "", 70}, {part, span(0, 0), "", 4}, {part, span(5, 3), "", 4}, {e, span(math.MinInt, math.MaxInt), "", 70}} {
		if s, why := entry.Part(x.e, x.s); s != x.want || why != x.err {
			t.Error("P35.7:", i, s, why)
		}
	}
}

func TestPack(t *testing.T) {
	e := put(t, put(t, begin(t, stampOf("abcdef")), 1, "b"), 4, "e")
	e.Soft = true
	s := e.Stamp
	texts := []string{"acme/a", "v", string(s.Body[:]), "x", string(s.Seal[:]), e.Bytes}
	numbers := []int{200, 6, 100, 110, 7, 1, 1, 1, 2, 4, 5}
	pack := func(texts []string, numbers []int) string {
		return string(append(wire.Strings(texts), wire.Ints(numbers)...))
	}
	if entry.Pack(e) != pack(texts, numbers) {
		t.Error("P35.8: Pack")
	}
	text := func(i int, x string) []string {
		l := slices.Clone(texts)
		l[i] = x
		return l
	}
	number := func(i, x int) []int {
		l := slices.Clone(numbers)
		l[i] = x
		return l
	}
	good := entry.Pack(e)
	bad := []string{
		"", good + "x", pack(texts[:5], numbers), pack(append(slices.Clone(texts), ""), numbers), pack(text(2, "short"), numbers), pack(text(4, "short"), numbers), pack(text(5, "abcdef"), numbers), pack(text(5, ""), numbers), pack(texts, numbers[:6]), pack(texts, numbers[:8]), pack(texts, number(6, 2)), pack(texts, number(6, -1)), pack(texts, number(0, 99)), pack(texts, number(1, 7)), pack(texts, number(1, -6)),
		pack(texts, number(8, 1)), pack(texts, number(9, 2)), pack(texts, number(10, 7)), pack(texts, number(7, math.MinInt)), pack(texts, []int{200, 6, 100, 110, 7, 1, 1, 0, 6}), pack(texts, number(2, 111)), pack(texts, number(4, -1)),
	}
	for i := range good {
		bad = append(bad, good[:i])
	}
	for i, s := range bad {
		if e, why := entry.Unpack(s); why != api.ErrForm || !reflect.DeepEqual(e, api.Entry{}) {
			t.Error("P35.8: Unpack:", i, why)
		}
	}
	full := whole(t, stampOf("abcdef"), "abcdef")
	if f, why := entry.Unpack(entry.Pack(full)); why != api.OK || !f.Whole {
		t.Error("P35.8: a whole entry:", why)
	}
	long := strings.Repeat("z", api.MaxEntry)
	if f, why := entry.Unpack(entry.Pack(whole(t, stampOf(long), long))); why != api.OK || !f.Whole || ranges.Total(f.Have) != api.MaxEntry {
		t.Error("P35.8: the greatest entry:", why)
	}
}
