package clock_test

import (
	"math"
	"math/big"
	"math/rand"
	"testing"

	"weirgate/api"
	"weirgate/clock"
)

const last = 1 << 41

func at(lo, hi int) api.Period { return api.Period{Lo: lo, Hi: hi} }

func randomPeriod(r *rand.Rand, n int) api.Period {
	lo := r.Intn(n)
	return at(lo, lo+r.Intn(n-lo))
}

func TestPeriods(t *testing.T) {
	for i, x := range []struct {
		p  api.Period
		ok bool
	}{{at(0, 0), true}, {at(0, api.MaxTime), true}, {at(api.MaxTime, api.MaxTime), true}, {at(-1, 5), false}, {at(5, 4), false}, {at(5, api.MaxTime+1), false}, {at(math.MinInt, math.MaxInt), false}} {
		if clock.Valid(x.p) != x.ok {
			t.Error("P5.1: Valid:", i)
		}
	}
	r := rand.New(rand.NewSource(1))
	for range 2000 {
		a, b := randomPeriod(r, 12), randomPeriod(r, 12)
		meet, ok := clock.Meet(a, b)
		hull := clock.Hull(a, b)
		some := false
		for i := range 12 {
			inA, inB := a.Lo <= i && i <= a.Hi, b.Lo <= i && i <= b.Hi
			some = some || inA && inB
			if (inA && inB) != (ok && meet.Lo <= i && i <= meet.Hi) {
				t.Fatal("P5.1: Meet of", a, b, meet)
			}
			if (inA || inB) && (i < hull.Lo || i > hull.Hi) {
				t.Fatal("P5.1: Hull of", a, b, hull)
			}
		}
		if ok != some || !ok && meet != (api.Period{}) {
			t.Fatal("P5.1: Meet of", a, b, meet, ok)
		}
		if hull.Lo != a.Lo && hull.Lo != b.Lo || hull.Hi != a.Hi && hull.Hi != b.Hi {
			t.Fatal("P5.1: Hull is not the least:", a, b, hull)
		}
		for i := -1; i < 14; i++ {
			if clock.Before(a, i) != (a.Hi < i) || clock.From(a, i) != (a.Lo >= i) || clock.Before(a, i) && clock.From(a, i) {
				t.Fatal("P5.1, P5.9: Before, From:", a, i)
			}
			if b.Lo >= a.Lo && b.Hi <= a.Hi && (clock.Before(a, i) && !clock.Before(b, i) || clock.From(a, i) && !clock.From(b, i)) {
				t.Fatal("P5.9: a period within:", a, b, i)
			}
		}
	}
	if clock.Before(at(5, 9), math.MinInt) || !clock.Before(at(5, 9), math.MaxInt) || !clock.From(at(5, 9), math.MinInt) || clock.From(at(5, 9), math.MaxInt) {
		t.Error("P5.1: any integers")
	}
	for i, x := range []struct {
		p    api.Period
		by   int
		want api.Period
	}{{at(5, 9), 0, at(5, 9)}, {at(5, 9), 3, at(2, 12)}, {at(5, 9), 7, at(0, 16)}, {at(5, api.MaxTime-2), 3, at(2, api.MaxTime)}, {at(5, 9), api.MaxTime, at(0, api.MaxTime)}} {
		if p := clock.Widen(x.p, x.by); p != x.want {
			t.Error("P5.1: Widen:", i, p)
		}
	}
}

func TestNewCheck(t *testing.T) {
	for i, x := range []struct {
		c  api.Clock
		ok bool
	}{
		{api.Clock{}, true}, {api.Clock{Local: last, At: at(3, 4), Drift: api.MaxDrift}, true}, {api.Clock{Local: -1}, false},
		{api.Clock{Local: last + 1}, false}, {api.Clock{At: at(4, 3)}, false}, {api.Clock{At: at(4, api.MaxTime+1)}, false},
		{api.Clock{Drift: -1}, false}, {api.Clock{Drift: api.MaxDrift + 1}, false},
	} {
		want := api.OK
		if !x.ok {
			want = api.ErrArg
		}
		if e := clock.Check(x.c); e != want {
			t.Error("P5.2: Check:", i, e)
		}
		c, e := clock.New(x.c.Local, x.c.At, x.c.Drift)
		if e != want || x.ok && c != x.c || !x.ok && c != (api.Clock{}) {
			t.Error("P5.2: New:", i, c, e)
		}
	}
}

// slowRead computes with rational numbers.
func slowRead(c api.Clock, local int) api.Period {
	n := int64(local - c.Local)
	div := func(a, b int64, up bool) int {
		q, m := new(big.Int).DivMod(new(big.Int).Mul(big.NewInt(a), big.NewInt(1000000)), big.NewInt(b), new(big.Int))
		if up && m.Sign() > 0 {
			q.Add(q, big.NewInt(1))
		}
		return int(q.Int64())
	}
	lo := 0
	if n != 0 {
		lo = div(n-1, int64(1000000+c.Drift), true)
	}
	return at(min(api.MaxTime, c.At.Lo+lo), min(api.MaxTime, c.At.Hi+div(n+1, int64(1000000-c.Drift), false)))
}

func TestRead(t *testing.T) {
	c := api.Clock{Local: 1000, At: at(5000, 5010), Drift: 100000}
	for i, x := range []struct {
		local int
		p     api.Period
		e     api.Errno
	}{
		{1000, at(5000, 5011), 0}, {1010, at(5009, 5022), 0}, {2101, at(6000, 6234), 0}, {1001, at(5000, 5012), 0}, {999, at(0, 0), api.ErrTime},
		{0, at(0, 0), api.ErrTime}, {-1, at(0, 0), api.ErrArg}, {last + 1, at(0, 0), api.ErrArg}, {math.MinInt, at(0, 0), api.ErrArg},
		{last, at(api.MaxTime, api.MaxTime), 0},
	} {
		if p, e := clock.Read(c, x.local); p != x.p || e != x.e {
			t.Error("P5.3: case", i, p, e)
		}
	}
	r := rand.New(rand.NewSource(2))
	for range 3000 {
		c := api.Clock{Local: r.Intn(1 << (1 + r.Intn(41))), At: randomPeriod(r, 1<<(1+r.Intn(39))), Drift: r.Intn(1 + r.Intn(api.MaxDrift+1))}
		local := min(last, c.Local+r.Intn(1<<(1+r.Intn(41))))
		p, e := clock.Read(c, local)
		if e != api.OK || p != slowRead(c, local) || !clock.Valid(p) {
			t.Fatal("P5.3:", c, local, p, e)
		}
		if q, _ := clock.Read(c, min(last, local+1)); q.Lo < p.Lo || q.Hi < p.Hi {
			t.Fatal("P5.8: Read decreases:", c, local)
		}
	}
}

func TestSync(t *testing.T) {
	c := api.Clock{Local: 1000, At: at(5000, 5010), Drift: 100000}
	for i, x := range []struct {
		local int
		at    api.Period
		want  api.Clock
		e     api.Errno
	}{
		{1010, at(5020, 5040), api.Clock{Local: 1010, At: at(5020, 5022), Drift: 100000}, 0},
		{1010, at(5030, 5040), api.Clock{}, api.ErrTime}, {1010, at(5022, 5040), api.Clock{Local: 1010, At: at(5022, 5022), Drift: 100000}, 0},
		{1010, at(0, 5008), api.Clock{}, api.ErrTime}, {999, at(5000, 5010), api.Clock{}, api.ErrTime}, {-1, at(5000, 5010), api.Clock{}, api.ErrArg},
		{999, at(6, 5), api.Clock{}, api.ErrArg}, {1010, at(6, api.MaxTime+1), api.Clock{}, api.ErrArg}, {last + 1, at(5000, 5010), api.Clock{}, api.ErrArg},
	} {
		if c, e := clock.Sync(c, x.local, x.at); c != x.want || e != x.e {
			t.Error("P5.4: case", i, c, e)
		}
	}
	r := rand.New(rand.NewSource(3))
	for range 2000 {
		c := api.Clock{Local: r.Intn(1000), At: randomPeriod(r, 1000), Drift: r.Intn(api.MaxDrift + 1)}
		local := c.Local + r.Intn(2000)
		d, e := clock.Sync(c, local, randomPeriod(r, 3000))
		if e != api.OK {
			continue
		}
		p, _ := clock.Read(c, local)
		q, _ := clock.Read(d, local)
		if q.Hi-q.Lo > p.Hi-p.Lo+2 {
			t.Fatal("P5.8: wider after Sync:", c, local, p, q)
		}
	}
}

func TestUntilWorth(t *testing.T) {
	c := api.Clock{Local: 1000, At: at(5000, 5010), Drift: 100000}
	if clock.Until(c, 5023) != 1010 || clock.Until(c, 5011) != -1 || clock.Worth(c, 1005, 5023) != 6 {
		t.Error("P5.5: the examples")
	}
	if clock.Until(c, 5012) != 1000 || clock.Until(c, 0) != -1 {
		t.Error("P5.5: the first reading")
	}
	early := api.Clock{Local: last - 5, At: at(1, 2)}
	if clock.Until(early, api.MaxTime) != last || clock.Worth(early, last, api.MaxTime) != 1 || clock.Worth(early, last-5, api.MaxTime) != 6 || clock.Worth(early, last+1, api.MaxTime) != 0 {
		t.Error("P5.5: up to the last reading")
	}
	r := rand.New(rand.NewSource(4))
	for range 200 {
		c := api.Clock{Local: r.Intn(20), At: randomPeriod(r, 40), Drift: r.Intn(api.MaxDrift + 1)}
		limit := r.Intn(100)
		want := -1
		for local := c.Local; local < 400; local++ {
			if p, _ := clock.Read(c, local); p.Hi < limit {
				want = local
			}
		}
		if got := clock.Until(c, limit); got != want {
			t.Fatal("P5.5: Until:", c, limit, got, want)
		}
		for local := -2; local < 150; local++ {
			n := 0
			if local >= c.Local {
				n = max(0, want+1-local)
			}
			if got := clock.Worth(c, local, limit); got != n {
				t.Fatal("P5.5: Worth:", c, local, limit, got, n)
			}
		}
	}
}

func TestHonestShow(t *testing.T) {
	many := make([]api.Pace, api.MaxPaces+1)
	for i, x := range []struct {
		l     []api.Pace
		drift int
		ok    bool
	}{
		{nil, 0, true}, {[]api.Pace{{Len: 5, Ppm: 3}, {Len: 0, Ppm: -3}}, 3, true}, {[]api.Pace{{Len: 5, Ppm: 3}, {Len: 5, Ppm: -4}}, 3, false}, {[]api.Pace{{Len: 5, Ppm: 4}}, 3, false},
		{[]api.Pace{{Len: -1}}, 3, false}, {[]api.Pace{{Len: api.MaxTime + 1}}, 3, false}, {[]api.Pace{{Len: api.MaxTime, Ppm: api.MaxDrift}}, api.MaxDrift, true},
		{[]api.Pace{{Len: 5, Ppm: api.MaxDrift + 1}}, math.MaxInt, false}, {[]api.Pace{{Len: 5, Ppm: -api.MaxDrift - 1}}, math.MaxInt, false}, {[]api.Pace{{Len: 5}}, -1, false}, {many, 9, false}, {many[1:], 0, true},
	} {
		if clock.Honest(x.l, x.drift) != x.ok {
			t.Error("P5.6: Honest:", i)
		}
	}
	paces := []api.Pace{{Len: 100, Ppm: 100000}, {Len: 50, Ppm: -100000}}
	slow := []api.Pace{{Len: 3, Ppm: -1}}
	fast := []api.Pace{{Len: api.MaxTime, Ppm: api.MaxDrift}}
	for i, x := range []struct {
		base int
		l    []api.Pace
		t    int
		want int
		e    api.Errno
	}{
		{7, paces, 120, 135, 0}, {7, paces, 0, 7, 0}, {7, paces, 150, 162, 0}, {7, paces, 151, 163, 0}, {7, paces, 100, 117, 0}, {0, paces, 9, 9, 0},
		{5, slow, 1, 5, 0}, {5, slow, 3, 7, 0}, {5, nil, 9, 14, 0}, {api.MaxTime, nil, api.MaxTime, last, 0}, {api.MaxTime, fast, api.MaxTime, 0, api.ErrLimit},
		{-1, nil, 5, 0, api.ErrArg}, {api.MaxTime + 1, nil, 5, 0, api.ErrArg}, {5, nil, -1, 0, api.ErrArg}, {5, nil, api.MaxTime + 1, 0, api.ErrArg},
		{5, many, 5, 0, api.ErrArg}, {5, []api.Pace{{Len: -1}}, 5, 0, api.ErrArg}, {5, []api.Pace{{Len: 1, Ppm: api.MaxDrift + 1}}, 0, 0, api.ErrArg},
	} {
		if n, e := clock.Show(x.base, x.l, x.t); n != x.want || e != x.e {
			t.Error("P5.6: Show:", i, n, e)
		}
	}
}

// A machine whose clock is honest is never wrong about the time.
func TestTruth(t *testing.T) {
	r := rand.New(rand.NewSource(5))
	for range 500 {
		drift := r.Intn(api.MaxDrift + 1)
		paces := make([]api.Pace, r.Intn(6))
		for i := range paces {
			paces[i] = api.Pace{Len: r.Intn(300), Ppm: r.Intn(2*drift+1) - drift}
		}
		base := r.Intn(50)
		around := func(now int) api.Period { return at(max(0, now-r.Intn(20)), now+r.Intn(20)) }
		now := r.Intn(200)
		local, _ := clock.Show(base, paces, now)
		c, e := clock.New(local, around(now), drift)
		for range 20 {
			now += r.Intn(100)
			local, _ := clock.Show(base, paces, now)
			p, f := clock.Read(c, local)
			if e != api.OK || f != api.OK || now < p.Lo || now > p.Hi {
				t.Fatal("P5.7: Read:", paces, drift, now, p, e, f)
			}
			if r.Intn(3) == 0 {
				c, e = clock.Sync(c, local, around(now))
			}
		}
	}
}
