package playlist_test

import (
	"math/rand"
	"reflect"
	"testing"

	"weirgate/api"
	"weirgate/playlist"
)

// stream returns a stream whose segments have lengths from least to most.
func stream(r *rand.Rand, n, least, most int) []api.Segment {
	var l []api.Segment
	begin, num := r.Intn(1000), r.Intn(1000)
	for i := range n {
		s := api.Segment{Num: num + i, Begin: begin, Len: least + r.Intn(most-least+1), Size: r.Intn(api.MaxBytes + 1)}
		r.Read(s.Body[:])
		l = append(l, s)
		begin += s.Len
	}
	return l
}

func TestSpread(t *testing.T) {
	l := list(4, 5, 6).L
	all := func(n, k, d int) [][]int {
		delays := make([][]int, k)
		for i := range delays {
			for range n {
				delays[i] = append(delays[i], d)
			}
		}
		return delays
	}
	if got, e := playlist.Spread(l, []int{0, 0, 1}, all(3, 3, 3)); e != api.OK || !reflect.DeepEqual(got, [][]int{{110, 120, 130}, {113, 123, 133}, {116, 126, 136}}) {
		t.Error("P43.6:", got, e)
	}
	if got, e := playlist.Spread(l, []int{-9, 0, 0, 1}, [][]int{nil, {25, 3, 0}, {0, 0, 0}, {1, 1, 30}}); e != api.OK || !reflect.DeepEqual(got, [][]int{{110, 120, 130}, {135, 135, 135}, {110, 120, 130}, {136, 136, 165}}) {
		t.Error("P43.6: not before the segment before:", got, e)
	}
	if got, e := playlist.Spread(nil, []int{0, 0}, all(0, 2, 0)); e != api.OK || len(got) != 2 || len(got[0]) != 0 || len(got[1]) != 0 {
		t.Error("P43.6: no segments:", got, e)
	}
	long := stream(rand.New(rand.NewSource(1)), 1001, 1, 5)
	if got, e := playlist.Spread(long[:1000], make([]int, 100), all(1000, 100, api.MaxTime)); e != api.OK || len(got) != 100 || got[99][999] != long[999].Begin+long[999].Len+api.MaxTime {
		t.Error("P43.6: the limits:", e)
	}
	for i, x := range []struct {
		l       []api.Segment
		parents []int
		delays  [][]int
	}{
		{long, []int{0}, [][]int{nil}}, {list(4, 6).L, []int{0}, [][]int{nil}}, {[]api.Segment{{Num: 4, Begin: 1}}, []int{0}, [][]int{nil}}, {l, nil, nil}, {nil, make([]int, 101), all(0, 101, 0)}, {l, []int{0, 1}, all(3, 2, 0)}, {l, []int{0, -1}, all(3, 2, 0)}, {l, []int{0, 0, 2}, all(3, 3, 0)},
		{l, []int{0, 0}, all(3, 1, 0)}, {l, []int{0, 0}, all(3, 3, 0)}, {l, []int{0, 0}, all(2, 2, 0)}, {l, []int{0, 0}, all(4, 2, 0)}, {l, []int{0, 0}, all(3, 2, -1)}, {l, []int{0, 0}, all(3, 2, api.MaxTime+1)},
	} {
		if got, e := playlist.Spread(x.l, x.parents, x.delays); e != api.ErrArg || got != nil {
			t.Error("P43.6: errors:", i, got, e)
		}
	}
}

func TestSeen(t *testing.T) {
	l, arrived := list(4, 5, 6, 7).L, []int{10, 20, 20, 30}
	for i, x := range []struct {
		at, window int
		want       api.Playlist
	}{
		{9, 3, api.Playlist{First: 4}}, {10, 3, list(4)}, {19, 3, list(4)}, {20, 3, list(4, 5, 6)}, {29, 2, list(5, 6)}, {30, 3, list(5, 6, 7)}, {1 << 50, 100, list(4, 5, 6, 7)}, {-1, 1, api.Playlist{First: 4}},
	} {
		if got := playlist.Seen(l, arrived, x.at, x.window); !reflect.DeepEqual(got, x.want) {
			t.Error("P43.7:", i, got)
		}
	}
	if got := playlist.Seen(nil, nil, 5, 5); !reflect.DeepEqual(got, none) {
		t.Error("P43.7: no segments:", got)
	}
	seen := playlist.Seen(l, arrived, 30, 100)
	seen.L[0].Num = 99
	if l[0].Num != 4 {
		t.Error("P43.7: shared memory")
	}
}

func TestBounds(t *testing.T) {
	for i, x := range []struct{ depth, hop, length, lag, gap int }{
		{2, 3, 10, 16, 1}, {0, 5, 7, 7, 0}, {5, 0, 7, 7, 0}, {1, 7, 7, 14, 1}, {1, 8, 7, 15, 2}, {2, 7, 7, 21, 2}, {16, 1 << 30, 1, 1<<34 + 1, 1 << 34}, {16, 1 << 30, 60000, 1<<34 + 60000, 286332},
	} {
		if lag, gap := playlist.Lag(x.depth, x.hop, x.length), playlist.Gap(x.depth, x.hop, x.length); lag != x.lag || gap != x.gap {
			t.Error("P43.8:", i, lag, gap)
		}
	}
}

func TestLive(t *testing.T) {
	r := rand.New(rand.NewSource(43))
	for range 300 {
		least := 1 + r.Intn(20)
		most, hop := least+r.Intn(20), r.Intn(60)
		l := stream(r, 1+r.Intn(30), least, most)
		parents, depth := make([]int, 1+r.Intn(8)), make([]int, 8)
		delays := make([][]int, len(parents))
		for k := range parents {
			if k > 0 {
				parents[k] = r.Intn(k)
				depth[k] = depth[parents[k]] + 1
			}
			for range l {
				delays[k] = append(delays[k], r.Intn(hop+1))
			}
		}
		arrived, e := playlist.Spread(l, parents, delays)
		if e != api.OK {
			t.Fatal("P43.6:", e)
		}
		checkLive(t, r, l, arrived, depth, hop, least, most)
	}
}

func checkLive(t *testing.T, r *rand.Rand, l []api.Segment, arrived [][]int, depth []int, hop, least, most int) {
	t.Helper()
	last := l[len(l)-1].Begin + l[len(l)-1].Len
	for at := l[0].Begin; at <= last+100; at++ {
		i, k := r.Intn(len(arrived)), r.Intn(len(arrived))
		a, b := playlist.Seen(l, arrived[i], at, 100), playlist.Seen(l, arrived[k], at, 100)
		if at >= l[0].Begin+l[0].Len+depth[i]*hop && at <= last {
			if edge := playlist.Edge(a); edge <= at-playlist.Lag(depth[i], hop, most) || edge > at {
				t.Fatal("P43.9:", l, arrived[i], at, edge)
			}
		}
		gap := playlist.Next(a) - playlist.Next(b)
		if bound := playlist.Gap(max(depth[i], depth[k]), hop, least); max(gap, -gap) > bound {
			t.Fatal("P43.10:", l, arrived, at, gap)
		}
		wa, wb := playlist.Seen(l, arrived[i], at, 1+r.Intn(5)), playlist.Seen(l, arrived[k], at, 1+r.Intn(5))
		window := 1 + r.Intn(9)
		m, e := playlist.Merge(wa, wb, window)
		n, e2 := playlist.Merge(wb, wa, window)
		if e != api.OK || e2 != api.OK || !reflect.DeepEqual(m, n) || playlist.Next(m) != max(playlist.Next(wa), playlist.Next(wb)) || !playlist.Valid(m) {
			t.Fatal("P43.11:", wa, wb, m, n, e, e2)
		}
		for _, s := range m.L {
			if l[s.Num-l[0].Num] != s {
				t.Fatal("P43.11: not of the stream:", s)
			}
		}
	}
}
