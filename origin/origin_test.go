package origin_test

import (
	"math"
	"math/rand"
	"slices"
	"strings"
	"testing"

	"weirgate/api"
	"weirgate/hash"
	"weirgate/origin"
	"weirgate/seal"
)

func version(from int, bytes, tags string) api.Version {
	return api.Version{From: from, Status: 200, Bytes: bytes, Tags: tags}
}

func example() []api.Version { return []api.Version{version(10, "abc", "x"), version(20, "abd", "")} }

func at(lo, hi int) api.Period { return api.Period{Lo: lo, Hi: hi} }

func gate() api.Key {
	return api.Key{Party: 100, Serial: 3, Secret: "g", From: 0, To: api.MaxTime}
}

func TestTimeline(t *testing.T) {
	var many []api.Version
	for i := range api.MaxVersions + 1 {
		many = append(many, version(i, "", ""))
	}
	for i, l := range [][]api.Version{nil, example(), many[1:], {{From: api.MaxTime, Status: 599}}, {{Status: 100, Tags: "a,b"}}} {
		if !origin.Valid(l) {
			t.Error("P34.1: a valid timeline:", i)
		}
	}
	for i, l := range [][]api.Version{many, {version(-1, "", "")}, {version(api.MaxTime+1, "", "")}, {version(5, "", ""), version(5, "", "")}, {version(5, "", ""), version(4, "", "")}, {{Status: 99}}, {{Status: 600}}, {version(1, "", "b,a")}, {version(1, "", "A")}} {
		if origin.Valid(l) {
			t.Error("P34.1: a timeline that is not valid:", i)
		}
	}
	if origin.Digest("abc") != hash.Of(34, "abc") || origin.Digest("") != hash.Of(34, "") {
		t.Error("P34.1: Digest")
	}
	none := api.Version{Status: 404}
	for when, want := range map[int]api.Version{0: none, 9: none, 10: example()[0], 19: example()[0], 20: example()[1], 25: example()[1], api.MaxTime: example()[1]} {
		if v := origin.At(example(), when); v != want {
			t.Error("P34.1: At", when, v)
		}
	}
	if origin.At(nil, 5) != none {
		t.Error("P34.1: At without versions")
	}
}

func TestAnswers(t *testing.T) {
	abc, abd := origin.Digest("abc"), origin.Digest("abd")
	if a := origin.Answer(example(), 15, abc); a != (api.Answer{Status: 200, Size: 3, Body: abc, Tags: "x", Same: true}) {
		t.Error("P34.2:", a)
	}
	if a := origin.Answer(example(), 15, abd); a != (api.Answer{Status: 200, Size: 3, Body: abc, Tags: "x", Bytes: "abc"}) {
		t.Error("P34.2:", a)
	}
	if a := origin.Answer(example(), 5, api.Digest{}); a != (api.Answer{Status: 404, Body: origin.Digest("")}) {
		t.Error("P34.2:", a)
	}
	if a := origin.Answer(example(), 5, origin.Digest("")); !a.Same {
		t.Error("P34.2: nothing is the same:", a)
	}
	for i, x := range []struct {
		known    api.Digest
		from, to int
		want     string
		e        api.Errno
	}{
		{abc, 1, 3, "", 341}, {abd, 1, 3, "bd", 0}, {abd, 0, 3, "abd", 0}, {abd, 3, 3, "", 0}, {abd, 0, 0, "", 0}, {abd, -1, 3, "", 1}, {abd, 2, 1, "", 1}, {abd, 0, 4, "", 1}, {abc, 2, 1, "", 341}, {abd, math.MinInt, math.MaxInt, "", 1},
	} {
		if s, e := origin.Part(example(), 25, x.known, api.Span{From: x.from, To: x.to}); s != x.want || e != x.e {
			t.Error("P34.3:", i, s, e)
		}
	}
	long := strings.Repeat("weirgate", 10)
	l := []api.Version{version(0, long, "")}
	for a := range len(long) {
		for b := a; b < len(long); b += 7 {
			x, _ := origin.Part(l, a, origin.Digest(long), api.Span{From: a, To: b})
			y, _ := origin.Part(l, b, origin.Digest(long), api.Span{From: b, To: len(long)})
			z, _ := origin.Part(l, 0, origin.Digest(long), api.Span{From: a, To: len(long)})
			if x+y != z {
				t.Fatal("P34.8: parts do not fit together:", a, b)
			}
		}
	}
}

func TestServe(t *testing.T) {
	fault := func(from, to, kind, delay int) api.Fault {
		return api.Fault{From: from, To: to, Kind: kind, Delay: delay}
	}
	many := slices.Repeat([]api.Fault{fault(0, 0, api.FaDown, 0)}, api.MaxVersions+1)
	if !origin.Faulty(nil) || !origin.Faulty(many[1:]) || !origin.Faulty([]api.Fault{fault(0, api.MaxTime, api.FaTwice, api.MaxTime)}) {
		t.Error("P34.4: valid faults")
	}
	for i, l := range [][]api.Fault{many, {fault(-1, 5, 1, 0)}, {fault(5, 4, 1, 0)}, {fault(5, api.MaxTime+1, 1, 0)}, {fault(1, 5, 0, 0)}, {fault(1, 5, 4, 0)}, {fault(1, 5, 2, -1)}, {fault(1, 5, 2, api.MaxTime+1)}} {
		if origin.Faulty(l) {
			t.Error("P34.4: faults that are not valid:", i)
		}
	}
	l := example()
	for i, x := range []struct {
		f    []api.Fault
		t    int
		want []int
		e    api.Errno
	}{
		{nil, 15, []int{15}, 0}, {[]api.Fault{fault(15, 16, api.FaSlow, 7)}, 15, []int{22}, 0}, {[]api.Fault{fault(15, 16, api.FaSlow, 7)}, 16, []int{16}, 0}, {[]api.Fault{fault(15, 16, api.FaSlow, 7)}, 14, []int{14}, 0}, {[]api.Fault{fault(15, 15, api.FaDown, 7)}, 15, []int{15}, 0}, {[]api.Fault{fault(0, 99, api.FaDown, 7)}, 15, nil, 340},
		{[]api.Fault{fault(0, 99, api.FaTwice, 7)}, 15, []int{15, 22}, 0}, {[]api.Fault{fault(0, 99, api.FaTwice, 0)}, 15, []int{15, 15}, 0}, {[]api.Fault{fault(20, 99, api.FaDown, 0), fault(0, 99, api.FaSlow, 1), fault(0, 99, api.FaDown, 1)}, 15, []int{16}, 0}, {[]api.Fault{fault(0, 99, api.FaSlow, api.MaxTime)}, 0, []int{api.MaxTime}, 0},
		{[]api.Fault{fault(0, 99, api.FaSlow, api.MaxTime)}, 1, nil, 340}, {[]api.Fault{fault(0, 99, api.FaTwice, api.MaxTime)}, 1, []int{1}, 0}, {nil, api.MaxTime, []int{api.MaxTime}, 0},
	} {
		known := origin.Digest("abc")
		got, e := origin.Serve(l, x.f, x.t, known)
		var want []api.Given
		for _, when := range x.want {
			want = append(want, api.Given{At: when, A: origin.Answer(l, when, known)})
		}
		if !slices.Equal(got, want) || e != x.e {
			t.Error("P34.4:", i, got, e)
		}
	}
}

func TestStamp(t *testing.T) {
	a := origin.Answer(example(), 15, api.Digest{})
	s, e := origin.Stamp(gate(), "acme/a", "v", a, at(10, 12), at(14, 16))
	want := seal.SealStamp(gate(), api.Stamp{Addr: "acme/a", Variant: "v", Status: 200, Size: 3, Body: a.Body, Tags: "x", At: at(10, 16)})
	if e != api.OK || s != want || s.Gate != 100 || s.Serial != 3 {
		t.Error("P34.5: Stamp:", s, e)
	}
	same := origin.Answer(example(), 15, a.Body)
	same.Status = 304
	same.Tags = "y"
	r, e := origin.Renew(gate(), s, same, at(20, 22), at(24, 26))
	want = seal.SealStamp(gate(), api.Stamp{Addr: "acme/a", Variant: "v", Status: 304, Size: 3, Body: a.Body, Tags: "y", At: at(20, 26)})
	if e != api.OK || r != want {
		t.Error("P34.5: Renew:", r, e)
	}
	weak := gate()
	weak.Party = 0
	for i, x := range []struct {
		change    func(k *api.Key, addr *string, a *api.Answer, sent, got *api.Period)
		e, renews api.Errno
	}{
		{func(k *api.Key, addr *string, a *api.Answer, sent, got *api.Period) { *k = weak }, 1, 1},
		{func(k *api.Key, addr *string, a *api.Answer, sent, got *api.Period) { *sent = at(5, 4) }, 1, 1},
		{func(k *api.Key, addr *string, a *api.Answer, sent, got *api.Period) { *got = at(5, api.MaxTime+1) }, 1, 1},
		{func(k *api.Key, addr *string, a *api.Answer, sent, got *api.Period) { a.Same = !a.Same; *addr = "A" }, 1, 1},
		{func(k *api.Key, addr *string, a *api.Answer, sent, got *api.Period) { a.Size++; *addr = "A" }, 1, 341},
		{func(k *api.Key, addr *string, a *api.Answer, sent, got *api.Period) { a.Body[0]++; *addr = "A" }, 1, 341},
		{func(k *api.Key, addr *string, a *api.Answer, sent, got *api.Period) { *addr = "Acme" }, 3, 3},
		{func(k *api.Key, addr *string, a *api.Answer, sent, got *api.Period) { a.Tags = "b,a"; *got = at(1, 2) }, 3, 3},
		{func(k *api.Key, addr *string, a *api.Answer, sent, got *api.Period) { *got = at(1, 9) }, 9, 9},
		{func(k *api.Key, addr *string, a *api.Answer, sent, got *api.Period) { *got = at(1, 10) }, 0, 0},
		{func(k *api.Key, addr *string, a *api.Answer, sent, got *api.Period) { *addr = "acme?b=1" }, 0, 0},
	} {
		k, addr, b, sent, got := gate(), "acme/a", a, at(10, 12), at(14, 16)
		x.change(&k, &addr, &b, &sent, &got)
		y, e := origin.Stamp(k, addr, "v", b, sent, got)
		if e != x.e || e != api.OK && y != (api.Stamp{}) {
			t.Error("P34.5: Stamp:", i, e)
		}
		k, addr, b, sent, got = gate(), "acme/a", same, at(10, 12), at(14, 16)
		x.change(&k, &addr, &b, &sent, &got)
		old := s
		old.Addr = addr
		y, e = origin.Renew(k, old, b, sent, got)
		if e != x.renews || e != api.OK && y != (api.Stamp{}) {
			t.Error("P34.5: Renew:", i, e)
		}
	}
	bad := a
	bad.Bytes = "abcd"
	if _, e := origin.Stamp(gate(), "acme", "", bad, at(1, 2), at(3, 4)); e != api.ErrArg {
		t.Error("P34.5: other bytes:", e)
	}
}

func TestTrue(t *testing.T) {
	s := api.Stamp{Status: 200, Size: 3, Body: origin.Digest("abc"), Tags: "x"}
	for i, x := range []struct {
		at     api.Period
		change func(s *api.Stamp)
		want   bool
	}{
		{at(15, 30), func(s *api.Stamp) {}, true}, {at(20, 30), func(s *api.Stamp) {}, false}, {at(0, 9), func(s *api.Stamp) {}, false}, {at(0, 10), func(s *api.Stamp) {}, true}, {at(19, 19), func(s *api.Stamp) {}, true}, {at(15, 30), func(s *api.Stamp) { s.Status = 404 }, false}, {at(15, 30), func(s *api.Stamp) { s.Size = 4 }, false}, {at(15, 30), func(s *api.Stamp) { s.Body[0]++ }, false},
		{at(15, 30), func(s *api.Stamp) { s.Tags = "" }, false}, {at(15, 30), func(s *api.Stamp) { s.Body, s.Tags = origin.Digest("abd"), "" }, true}, {at(15, 19), func(s *api.Stamp) { s.Body, s.Tags = origin.Digest("abd"), "" }, false}, {at(3, 5), func(s *api.Stamp) { s.Status, s.Size, s.Body, s.Tags = 404, 0, origin.Digest(""), "" }, true}, {at(10, 99), func(s *api.Stamp) { s.Status, s.Size, s.Body, s.Tags = 404, 0, origin.Digest(""), "" }, false},
	} {
		y := s
		y.At = x.at
		x.change(&y)
		if origin.True(example(), y) != x.want {
			t.Error("P34.6:", i)
		}
	}
	r := rand.New(rand.NewSource(1))
	for range 2000 {
		var l []api.Version
		from := 0
		for range r.Intn(5) {
			from += 1 + r.Intn(10)
			l = append(l, version(from, string(rune('a'+r.Intn(2))), []string{"", "x"}[r.Intn(2)]))
		}
		lo := r.Intn(40)
		y := api.Stamp{Status: 200, Size: 1, Body: origin.Digest("a"), Tags: []string{"", "x"}[r.Intn(2)], At: at(lo, lo+r.Intn(12))}
		want := false
		for when := y.At.Lo; when <= y.At.Hi; when++ {
			v := origin.At(l, when)
			want = want || v.Status == 200 && v.Bytes == "a" && v.Tags == y.Tags
		}
		if origin.True(l, y) != want {
			t.Fatal("P34.6:", l, y)
		}
		wide := y
		wide.At = at(max(0, y.At.Lo-r.Intn(5)), y.At.Hi+r.Intn(5))
		if want && !origin.True(l, wide) {
			t.Fatal("P34.9:", l, y)
		}
		// What a gateway says is true, however slow everything is.
		around := func(when int) api.Period { return at(max(0, when-r.Intn(4)), when+r.Intn(4)) }
		sent := r.Intn(40)
		f := []api.Fault{{From: 0, To: api.MaxTime, Kind: 2 + r.Intn(2), Delay: r.Intn(20)}}
		answers, _ := origin.Serve(l, f, sent, origin.Digest([]string{"a", "c"}[r.Intn(2)]))
		for _, g := range answers {
			var s api.Stamp
			var e api.Errno
			got := around(g.At + r.Intn(5))
			if g.A.Same {
				old := api.Stamp{Addr: "acme", Size: g.A.Size, Body: g.A.Body}
				s, e = origin.Renew(gate(), old, g.A, around(sent), got)
			} else {
				s, e = origin.Stamp(gate(), "acme", "", g.A, around(sent), got)
			}
			if e != api.OK || !origin.True(l, s) {
				t.Fatal("P34.7:", l, g, s, e)
			}
		}
	}
}
