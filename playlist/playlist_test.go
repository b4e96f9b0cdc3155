package playlist_test

import (
	"math"
	"math/rand"
	"reflect"
	"slices"
	"strings"
	"testing"

	"weirgate/api"
	"weirgate/playlist"
)

// segment is one of the stream of the examples: 10 ms, from the number 4 on, the first one from 100 on.
func segment(num int) api.Segment {
	return api.Segment{Num: num, Begin: 100 + 10*(num-4), Len: 10, Body: api.Digest{15: byte(num)}, Size: 7 * num}
}

func list(nums ...int) api.Playlist {
	var p api.Playlist
	for _, n := range nums {
		p.L = append(p.L, segment(n))
	}
	if len(nums) > 0 {
		p.First = nums[0]
	}
	return p
}

func done(p api.Playlist) api.Playlist {
	p.Done = true
	return p
}

var none = api.Playlist{}

func TestValid(t *testing.T) {
	change := func(f func(p *api.Playlist)) api.Playlist {
		p := list(4, 5, 6)
		f(&p)
		return p
	}
	long := api.Playlist{}
	for i := range api.MaxWindow {
		long.L = append(long.L, api.Segment{Num: i, Begin: i, Len: 1})
	}
	longer := long
	longer.L = append(slices.Clone(long.L), api.Segment{Num: api.MaxWindow, Begin: api.MaxWindow, Len: 1})
	for i, x := range []struct {
		p  api.Playlist
		ok bool
	}{
		{none, true}, {done(list(4, 5, 6)), true}, {api.Playlist{First: api.MaxSegments}, true}, {long, true}, {longer, false}, {api.Playlist{First: -1}, false}, {api.Playlist{First: api.MaxSegments + 1}, false},
		{api.Playlist{First: api.MaxSegments, L: []api.Segment{{Num: api.MaxSegments, Begin: api.MaxTime, Len: api.MaxSegment, Size: api.MaxBytes}}}, true},
		{change(func(p *api.Playlist) { p.First = 5 }), false}, {change(func(p *api.Playlist) { p.First = 3 }), false}, {change(func(p *api.Playlist) { p.L[1].Num = 4 }), false}, {change(func(p *api.Playlist) { p.L[1].Begin++ }), false}, {change(func(p *api.Playlist) { p.L[1].Len++ }), false}, {change(func(p *api.Playlist) { p.L[2].Len++ }), true},
		{change(func(p *api.Playlist) { p.L[2].Len = 0 }), false}, {change(func(p *api.Playlist) { p.L[2].Len = api.MaxSegment + 1 }), false}, {change(func(p *api.Playlist) { p.L[2].Len = api.MaxSegment }), true}, {change(func(p *api.Playlist) { p.L[0].Size = -1 }), false}, {change(func(p *api.Playlist) { p.L[0].Size = api.MaxBytes + 1 }), false},
		{api.Playlist{First: -1, L: []api.Segment{{Num: -1, Len: 1}}}, false}, {api.Playlist{L: []api.Segment{{Begin: -1, Len: 1}}}, false}, {api.Playlist{L: []api.Segment{{Begin: api.MaxTime + 1, Len: 1}}}, false},
		{api.Playlist{First: api.MaxSegments, L: []api.Segment{{Num: api.MaxSegments, Len: 1}, {Num: api.MaxSegments + 1, Begin: 1, Len: 1}}}, false},
	} {
		if playlist.Valid(x.p) != x.ok {
			t.Error("P43.1:", i)
		}
		if s, e := playlist.Text(x.p); (e == api.OK) != x.ok || !x.ok && (e != api.ErrForm || s != "") {
			t.Error("P43.5: Text:", i, e)
		}
	}
	if playlist.Next(none) != 0 || playlist.Edge(none) != 0 || playlist.Next(api.Playlist{First: 9}) != 9 || playlist.Edge(api.Playlist{First: 9}) != 0 || playlist.Next(list(4, 5)) != 6 || playlist.Edge(list(4, 5)) != 120 {
		t.Error("P43.1: Next, Edge")
	}
}

func TestPush(t *testing.T) {
	p := api.Playlist{First: 4}
	for num := 4; num <= 7; num++ {
		before := playlist.Next(p)
		next, e := playlist.Push(p, segment(num), 3)
		if e != api.OK || playlist.Next(p) != before {
			t.Fatal("P43.2:", num, e)
		}
		p = next
	}
	if !reflect.DeepEqual(p, list(5, 6, 7)) || playlist.Next(p) != 8 || playlist.Edge(p) != 140 {
		t.Error("P43.2:", p)
	}
	late := segment(8)
	late.Begin++
	free := segment(9)
	free.Begin = 7
	for i, x := range []struct {
		p      api.Playlist
		s      api.Segment
		window int
		want   api.Playlist
		e      api.Errno
	}{
		{p, segment(8), 1, list(8), 0}, {p, segment(8), 100, list(5, 6, 7, 8), 0}, {p, segment(8), 2, list(7, 8), 0}, {api.Playlist{First: 9}, free, 5, api.Playlist{First: 9, L: []api.Segment{free}}, 0},
		{p, segment(8), 0, none, api.ErrArg}, {p, segment(8), 101, none, api.ErrArg}, {done(p), segment(9), 0, none, api.ErrArg}, {done(p), segment(9), 3, none, api.ErrState}, {p, segment(7), 3, none, api.ErrForm}, {p, segment(9), 3, none, api.ErrForm}, {p, late, 3, none, api.ErrForm}, {api.Playlist{First: 9}, segment(8), 3, none, api.ErrForm},
	} {
		if got, e := playlist.Push(x.p, x.s, x.window); e != x.e || !reflect.DeepEqual(got, x.want) {
			t.Error("P43.2: Push:", i, got, e)
		}
	}
	ended := playlist.End(p)
	if !reflect.DeepEqual(ended, done(list(5, 6, 7))) || p.Done || !reflect.DeepEqual(playlist.End(ended), ended) || !playlist.End(none).Done {
		t.Error("P43.2: End:", ended)
	}
	ended.L[0].Num = 99
	if p.L[0].Num != 5 {
		t.Error("P43.2: shared memory")
	}
}

func TestFind(t *testing.T) {
	p := list(5, 6, 7)
	for num := range 12 {
		s, e := playlist.Find(p, num)
		if in := num >= 5 && num <= 7; in && s != segment(num) || in != (e == api.OK) || !in && (e != api.ErrName || s != (api.Segment{})) {
			t.Error("P43.3: Find:", num, s, e)
		}
	}
	for at, num := range map[int]int{110: 5, 119: 5, 120: 6, 139: 7, 109: 0, 140: 0, -1: 0, math.MaxInt: 0, math.MinInt: 0} {
		s, e := playlist.At(p, at)
		if num > 0 && (s != segment(num) || e != api.OK) || num == 0 && (e != api.ErrName || s != (api.Segment{})) {
			t.Error("P43.3: At:", at, s, e)
		}
	}
	if _, e := playlist.Find(none, 0); e != api.ErrName {
		t.Error("P43.3: no segments")
	}
}

func TestMerge(t *testing.T) {
	other := func(p api.Playlist, change func(p *api.Playlist)) api.Playlist {
		p.L = slices.Clone(p.L)
		change(&p)
		return p
	}
	longer := other(list(4, 5), func(p *api.Playlist) { p.L[1].Len++ })
	for i, x := range []struct {
		a, b   api.Playlist
		window int
		want   api.Playlist
		e      api.Errno
	}{
		{list(4, 5), list(5, 6, 7), 3, list(5, 6, 7), 0}, {list(4, 5), list(5, 6, 7), 4, list(4, 5, 6, 7), 0}, {list(4, 5), list(7), 3, list(7), 0}, {list(4, 5), list(6, 7), 9, list(4, 5, 6, 7), 0}, {list(4, 5), list(6, 7), 1, list(7), 0}, {list(4, 5, 6), list(5), 9, list(4, 5, 6), 0}, {list(5), list(4, 5, 6), 9, list(4, 5, 6), 0}, {list(6), list(4, 5, 6), 9, list(4, 5, 6), 0},
		{none, list(4, 5), 9, list(4, 5), 0}, {api.Playlist{First: 4}, list(4, 5), 9, list(4, 5), 0}, {list(4, 5), api.Playlist{First: 8}, 9, api.Playlist{First: 8}, 0}, {list(4, 5), api.Playlist{First: 6}, 9, list(4, 5), 0}, {api.Playlist{First: 6}, list(4, 5), 9, api.Playlist{First: 6}, 0}, {none, none, 9, none, 0},
		{done(list(4, 5)), list(5), 9, done(list(4, 5)), 0}, {list(4, 5), done(list(5, 6)), 9, done(list(4, 5, 6)), 0}, {list(4, 5), done(list(5)), 9, done(list(4, 5)), 0}, {done(list(4, 5)), done(list(5)), 1, done(list(5)), 0},
		{list(4, 5), list(5, 6), 0, none, api.ErrArg}, {list(4, 5), list(5, 6), 101, none, api.ErrArg}, {longer, list(5, 6), 0, none, api.ErrArg},
		{longer, list(5, 6), 9, none, api.ErrFork}, {list(5, 6), other(list(5, 6), func(p *api.Playlist) { p.L[0].Body[3]++ }), 9, none, api.ErrFork}, {list(5, 6), other(list(5, 6), func(p *api.Playlist) { p.L[1].Size++ }), 9, none, api.ErrFork}, {longer, list(6, 7), 9, none, api.ErrFork}, {longer, list(7), 9, list(7), 0},
		{done(list(4, 5)), list(5, 6), 9, none, api.ErrFork}, {done(list(4, 5)), list(8), 9, none, api.ErrFork}, {done(none), list(4), 9, none, api.ErrFork}, {done(list(4)), api.Playlist{First: 6}, 9, none, api.ErrFork},
	} {
		got, e := playlist.Merge(x.a, x.b, x.window)
		if e != x.e || !reflect.DeepEqual(got, x.want) {
			t.Error("P43.4:", i, got, e)
		}
		if e == api.ErrFork || e == api.ErrArg {
			if _, back := playlist.Merge(x.b, x.a, x.window); back != e {
				t.Error("P43.4: the other order:", i, back)
			}
		}
	}
	a, b := list(4, 5), list(6)
	got, _ := playlist.Merge(a, b, 9)
	got.L[0].Num, got.L[2].Num = 99, 99
	if a.L[0].Num != 4 || b.L[0].Num != 6 {
		t.Error("P43.4: shared memory")
	}
}

func TestText(t *testing.T) {
	p := list(4, 5)
	p.L[1].Body = api.Digest{0: 0xab, 1: 0x09, 15: 0xf0}
	want := "live 4\n100 10 28 00000000000000000000000000000004\n110 10 35 ab0900000000000000000000000000f0\n"
	for _, x := range []struct {
		p api.Playlist
		s string
	}{{p, want}, {done(p), want + "done\n"}, {none, "live 0\n"}, {api.Playlist{First: api.MaxSegments, Done: true}, "live 1099511627776\ndone\n"}} {
		if s, e := playlist.Text(x.p); s != x.s || e != api.OK {
			t.Error("P43.5: Text:", s, e)
		}
		if got, e := playlist.Parse(x.s); !reflect.DeepEqual(got, x.p) || e != api.OK {
			t.Error("P43.5: Parse:", got, e)
		}
	}
	for i, s := range []string{
		"", "\n", "live", "live 4", "live 4\n\n", "live 4 \n", "live  4\n", " live 4\n", "live +4\n", "live 04\n", "live -0\n", "live -1\n", "live 1099511627777\n", "live 99999999999999999999\n", "Live 4\n", "live 0x4\n", "live 4_0\n", "live 4\r\n", "live\n", "dead 4\n",
		want + "done", want + "done\n\n", want + "done\ndone\n", "live 4\ndone\n100 10 28 00000000000000000000000000000004\n", want[:len(want)-1], strings.ToUpper(want), strings.Replace(want, "110", "111", 1), strings.Replace(want, "ab", "AB", 1), strings.Replace(want, "ab", "a", 1), strings.Replace(want, "ab", "ag", 1), strings.Replace(want, "100 10 28", "100 10  28", 1), strings.Replace(want, "100 10 28", "100 10 028", 1), strings.Replace(want, "28 ", "", 1), strings.Replace(want, " 28 ", " 28 28 ", 1), "live 4\n100 0 28 00000000000000000000000000000004\n",
		"live 4\n" + strings.Repeat("a", 65530-7) + "\n", strings.Repeat("\n", 65536),
	} {
		if got, e := playlist.Parse(s); e != api.ErrForm || !reflect.DeepEqual(got, none) {
			t.Error("P43.5: Parse:", i, got, e)
		}
	}
	if _, e := playlist.Parse(want + strings.Repeat("x", 65537-len(want))); e != api.ErrLimit {
		t.Error("P43.5: too long:", e)
	}
}

func TestTextRandom(t *testing.T) {
	r := rand.New(rand.NewSource(43))
	for range 500 {
		p := api.Playlist{First: r.Intn(api.MaxSegments), Done: r.Intn(2) == 0, L: stream(r, r.Intn(101), 1, api.MaxSegment)}
		for i := range p.L {
			p.L[i].Num = p.First + i
		}
		if !playlist.Valid(p) {
			continue
		}
		s, e := playlist.Text(p)
		got, e2 := playlist.Parse(s)
		if e != api.OK || e2 != api.OK || !reflect.DeepEqual(got, p) {
			t.Fatal("P43.12:", p, e, e2)
		}
		bad := []byte(s)
		bad[r.Intn(len(bad))] = "0123456789abcdef \nlivedonx"[r.Intn(26)]
		if q, e := playlist.Parse(string(bad)); e == api.OK {
			if back, _ := playlist.Text(q); back != string(bad) {
				t.Fatal("P43.12: not the text:", string(bad))
			}
		}
	}
}
