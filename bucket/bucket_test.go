package bucket_test

import (
	"math"
	"math/rand"
	"slices"
	"testing"

	"weirgate/api"
	"weirgate/bucket"
)

func must(t *testing.T, cap, num, den, at int) api.Bucket {
	b, e := bucket.New(cap, num, den, at)
	if e != api.OK {
		t.Fatal("New:", cap, num, den, at, e)
	}
	return b
}

func random(r *rand.Rand) api.Bucket {
	b := api.Bucket{Cap: r.Intn(8), Num: r.Intn(5), Den: 1 + r.Intn(5), At: r.Intn(10)}
	b.Level = r.Intn(b.Cap*b.Den + 1)
	return b
}

// bad are buckets that are not valid.
func bad() []api.Bucket {
	good := api.Bucket{Cap: 10, Num: 3, Den: 2, Level: 20, At: 100}
	var l []api.Bucket
	for _, change := range []func(b *api.Bucket){
		func(b *api.Bucket) { b.Cap = -1 }, func(b *api.Bucket) { b.Cap = api.MaxTokens + 1 }, func(b *api.Bucket) { b.Num = -1 }, func(b *api.Bucket) { b.Num = api.MaxRate + 1 },
		func(b *api.Bucket) { b.Den, b.Level = 0, 0 }, func(b *api.Bucket) { b.Den = -1 }, func(b *api.Bucket) { b.Den = api.MaxRate + 1 }, func(b *api.Bucket) { b.Level = -1 }, func(b *api.Bucket) { b.Level = 21 },
		func(b *api.Bucket) { b.At = -1 }, func(b *api.Bucket) { b.At = api.MaxTime + 1 }, func(b *api.Bucket) { b.Cap, b.Den = math.MinInt, math.MinInt },
	} {
		b := good
		change(&b)
		l = append(l, b)
	}
	return l
}

func TestNewValid(t *testing.T) {
	if b := must(t, 10, 3, 2, 100); b != (api.Bucket{Cap: 10, Num: 3, Den: 2, Level: 20, At: 100}) || !bucket.Valid(b) || bucket.Tokens(b) != 10 {
		t.Error("P12.1: New:", b)
	}
	for _, x := range [][4]int{{0, 0, 1, 0}, {api.MaxTokens, api.MaxRate, api.MaxRate, api.MaxTime}} {
		if b := must(t, x[0], x[1], x[2], x[3]); b.Level != x[0]*x[2] {
			t.Error("P12.1: New:", b)
		}
	}
	for i, x := range [][4]int{{-1, 1, 1, 1}, {api.MaxTokens + 1, 1, 1, 1}, {1, -1, 1, 1}, {1, api.MaxRate + 1, 1, 1}, {1, 1, 0, 1}, {0, 1, -1, 1}, {1, 1, api.MaxRate + 1, 1}, {1, 1, 1, -1}, {1, 1, 1, api.MaxTime + 1}, {-1, 1, -1, 1}, {math.MaxInt, 1, math.MaxInt, 1}} {
		if b, e := bucket.New(x[0], x[1], x[2], x[3]); b != (api.Bucket{}) || e != api.ErrArg {
			t.Error("P12.1: New:", i, b, e)
		}
	}
	for i, b := range bad() {
		a, e1 := bucket.Refill(b, -5)
		c, e2 := bucket.Take(b, -5, 0)
		w, e3 := bucket.Wait(b, 99)
		s, e4 := bucket.Split(b, []int{b.Cap}, []int{b.Num})
		m, e5 := bucket.Merge([]api.Bucket{b})
		n, e6 := bucket.Most(b, 7, 5)
		if bucket.Valid(b) || bucket.Tokens(b) != 0 || a != (api.Bucket{}) || c != a || m != a || s != nil || w != 0 || n != 0 || e1 != 1 || e2 != 1 || e3 != 1 || e4 != 1 || e5 != 1 || e6 != 1 {
			t.Error("P12.1: a bucket that is not valid:", i, e1, e2, e3, e4, e5, e6)
		}
	}
}

func TestRefillTake(t *testing.T) {
	full := must(t, 10, 3, 2, 100)
	empty, e := bucket.Take(full, 100, 10)
	if e != api.OK || empty.Level != 0 || bucket.Tokens(empty) != 0 {
		t.Error("P12.3: the example:", empty, e)
	}
	for at, want := range map[int]int{101: 1, 102: 3, 103: 4, 106: 9, 107: 10, 200: 10} {
		if b, e := bucket.Refill(empty, at); e != api.OK || bucket.Tokens(b) != want || b.At != at || b.Level != min(20, 3*(at-100)) {
			t.Error("P12.2: the example:", at, b, e)
		}
	}
	for i, x := range []struct {
		b    api.Bucket
		t, n int
		e    api.Errno
	}{
		{empty, 101, 2, 4}, {empty, 101, 1, 0}, {empty, 102, 3, 0}, {empty, 102, 4, 4}, {empty, 99, 1, 9}, {empty, api.MaxTime + 1, 1, 9}, {empty, 99, 0, 1}, {empty, 99, -1, 1}, {empty, 99, api.MaxTokens + 1, 1},
		{empty, 99, math.MinInt, 1}, {full, 100, 11, 4}, {full, 100, api.MaxTokens, 4}, {full, api.MaxTime, 10, 0}, {empty, math.MinInt, 1, 9},
	} {
		b, e := bucket.Take(x.b, x.t, x.n)
		r, _ := bucket.Refill(x.b, x.t)
		r.Level -= x.n * r.Den
		if e != x.e || e == api.OK && b != r || e != api.OK && b != (api.Bucket{}) {
			t.Error("P12.3:", i, b, e)
		}
	}
	for _, x := range []int{99, -1, math.MinInt, api.MaxTime + 1, math.MaxInt} {
		if b, e := bucket.Refill(empty, x); b != (api.Bucket{}) || e != api.ErrTime {
			t.Error("P12.2: Refill at", x, b, e)
		}
	}
	huge := api.Bucket{Cap: api.MaxTokens, Num: api.MaxRate, Den: api.MaxRate}
	if b, e := bucket.Refill(huge, api.MaxTime); e != api.OK || b.Level != api.MaxTokens*api.MaxRate {
		t.Error("P12.2: the greatest numbers:", b, e)
	}
	r := rand.New(rand.NewSource(1))
	for range 5000 {
		b := random(r)
		t1 := b.At + r.Intn(10)
		t2 := t1 + r.Intn(10)
		once, _ := bucket.Refill(b, t2)
		step, _ := bucket.Refill(b, t1)
		if twice, e := bucket.Refill(step, t2); twice != once || e != api.OK {
			t.Fatal("P12.7: Refill in steps:", b, t1, t2)
		}
		more := b
		more.Level += r.Intn(b.Cap*b.Den - b.Level + 1)
		n := 1 + r.Intn(9)
		_, e := bucket.Take(b, t1, n)
		_, f := bucket.Take(more, t1, n)
		if e == api.OK && f != api.OK {
			t.Fatal("P12.7: a greater Level:", b, more, n)
		}
	}
}

func TestWait(t *testing.T) {
	empty := api.Bucket{Cap: 10, Num: 3, Den: 2, At: 100}
	for i, x := range []struct {
		b    api.Bucket
		n    int
		want int
		e    api.Errno
	}{
		{empty, 2, 102, 0}, {empty, 11, 0, 2}, {empty, 10, 107, 0}, {empty, 0, 0, 1}, {empty, -1, 0, 1}, {empty, api.MaxTokens + 1, 0, 1}, {empty, api.MaxTokens, 0, 2}, {api.Bucket{Cap: 5, Num: 0, Den: 2, Level: 3, At: 7}, 2, 0, 4},
		{api.Bucket{Cap: 5, Num: 0, Den: 2, Level: 4, At: 7}, 2, 7, 0}, {api.Bucket{Cap: 5, Num: 1, Den: 1, At: api.MaxTime - 2}, 2, api.MaxTime, 0}, {api.Bucket{Cap: 5, Num: 1, Den: 1, At: api.MaxTime - 2}, 3, 0, 4},
	} {
		if w, e := bucket.Wait(x.b, x.n); w != x.want || e != x.e {
			t.Error("P12.4:", i, w, e)
		}
	}
	r := rand.New(rand.NewSource(2))
	for range 5000 {
		b := random(r)
		n := 1 + r.Intn(8)
		first := -1
		for at := b.At; at < b.At+100 && first < 0; at++ {
			if _, e := bucket.Take(b, at, n); e == api.OK {
				first = at
			}
		}
		w, e := bucket.Wait(b, n)
		want := api.OK
		switch {
		case n > b.Cap:
			want = api.ErrLimit
		case first < 0:
			want = api.ErrState
		}
		if e != want || e == api.OK && w != first || e != api.OK && w != 0 {
			t.Fatal("P12.4:", b, n, w, e, first)
		}
	}
}

func TestSplitMerge(t *testing.T) {
	full := must(t, 10, 3, 2, 100)
	parts, e := bucket.Split(full, []int{4, 6}, []int{1, 2})
	if e != api.OK || !slices.Equal(parts, []api.Bucket{{Cap: 4, Num: 1, Den: 2, Level: 8, At: 100}, {Cap: 6, Num: 2, Den: 2, Level: 12, At: 100}}) {
		t.Error("P12.5: the example:", parts, e)
	}
	part := full
	part.Level = 9
	if l, e := bucket.Split(part, []int{4, 0, 6}, []int{0, 0, 3}); e != api.OK || l[0].Level != 8 || l[1].Level != 0 || l[2].Level != 1 {
		t.Error("P12.5: levels:", l, e)
	}
	for i, x := range []struct{ caps, nums []int }{
		{nil, nil}, {[]int{10}, nil}, {[]int{10}, []int{3, 0}}, {[]int{10, 0}, []int{3}}, {[]int{11, -1}, []int{3, 0}}, {[]int{10, 0}, []int{4, -1}}, {[]int{9}, []int{3}}, {[]int{10}, []int{2}}, {[]int{5, 6}, []int{3, 0}}, {[]int{5, 5}, []int{3, 1}},
		{make([]int, 65), make([]int, 65)}, {[]int{math.MaxInt, math.MaxInt, 12}, []int{1, 1, 1}},
	} {
		if l, e := bucket.Split(full, x.caps, x.nums); l != nil || e != api.ErrArg {
			t.Error("P12.5: Split:", i, l, e)
		}
	}
	many := make([]int, 64)
	many[63] = 10
	rate := make([]int, 64)
	rate[0] = 3
	parts, e = bucket.Split(full, many, rate)
	if e != api.OK || len(parts) != 64 || parts[63].Level != 20 {
		t.Error("P12.5: 64 parts:", e)
	}
	if b, e := bucket.Merge(parts); b != full || e != api.OK {
		t.Error("P12.5: Merge of 64:", b, e)
	}
	other, late := full, full
	other.Den = 4
	late.At++
	half := api.Bucket{Cap: api.MaxTokens, Den: 2, At: 100}
	fast := api.Bucket{Num: api.MaxRate, Den: 2, At: 100}
	for i, l := range [][]api.Bucket{nil, append(slices.Clone(parts), full), {full, other}, {full, late}, {half, full}, {fast, full}, {full, {}}, slices.Repeat([]api.Bucket{{Den: 1}}, 65)} {
		if b, e := bucket.Merge(l); b != (api.Bucket{}) || e != api.ErrArg {
			t.Error("P12.5: Merge:", i, b, e)
		}
	}
	r := rand.New(rand.NewSource(3))
	for range 3000 {
		b := random(r)
		caps, nums := make([]int, 1+r.Intn(4)), make([]int, 0)
		nums = append(nums, caps...)
		for range b.Cap {
			caps[r.Intn(len(caps))]++
		}
		for range b.Num {
			nums[r.Intn(len(nums))]++
		}
		parts, e := bucket.Split(b, caps, nums)
		if m, f := bucket.Merge(parts); m != b || e != api.OK || f != api.OK {
			t.Fatal("P12.9: Merge of Split:", b, parts, m)
		}
		at := b.At
		for range 20 {
			at += r.Intn(3)
			i, n := r.Intn(len(parts)), 1+r.Intn(3)
			p, e := bucket.Take(parts[i], at, n)
			if e != api.OK {
				continue
			}
			parts[i] = p
			if b, e = bucket.Take(b, at, n); e != api.OK {
				t.Fatal("P12.9: what a part gives cannot be taken of the whole")
			}
		}
		for i := range parts {
			parts[i], _ = bucket.Refill(parts[i], at)
		}
		b, _ = bucket.Refill(b, at)
		if m, e := bucket.Merge(parts); e != api.OK || m.Level > b.Level {
			t.Fatal("P12.9: more is left in the parts:", parts, b)
		}
	}
}

func TestMost(t *testing.T) {
	full := must(t, 10, 3, 2, 100)
	for i, x := range []struct {
		from, to, want int
		e              api.Errno
	}{
		{100, 103, 13, 0}, {100, 100, 0, 0}, {100, 101, 10, 0}, {104, 103, 0, 1}, {50, 40, 0, 1}, {99, 103, 0, 9}, {99, 99, 0, 9}, {100, api.MaxTime + 1, 0, 9}, {api.MaxTime, api.MaxTime + 1, 0, 9}, {api.MaxTime, api.MaxTime, 0, 0},
		{api.MaxTime + 1, api.MaxTime + 1, 0, 9}, {math.MinInt, math.MaxInt, 0, 9}, {100, math.MaxInt, 0, 9}, {100, api.MaxTime, 10 + (3*(api.MaxTime-101))/2, 0},
	} {
		if n, e := bucket.Most(full, x.from, x.to); n != x.want || e != x.e {
			t.Error("P12.6:", i, n, e)
		}
	}
	r := rand.New(rand.NewSource(4))
	for range 5000 {
		b := random(r)
		from := b.At + r.Intn(5)
		to := from + r.Intn(12)
		most, e := bucket.Most(b, from, to)
		at, taken := b.At, 0
		for range r.Intn(5) { // whatever is taken before
			at = min(from, at+r.Intn(3))
			if c, e := bucket.Take(b, at, 1+r.Intn(4)); e == api.OK {
				b = c
			}
		}
		for at := from; at < to; {
			n := 1 + r.Intn(3)
			if c, e := bucket.Take(b, at, n); e == api.OK {
				b, taken = c, taken+n
			} else {
				at += 1 + r.Intn(2)
			}
		}
		if e != api.OK || taken > most || taken*b.Den > b.Cap*b.Den+b.Num*(to-from) {
			t.Fatal("P12.8:", b, from, to, most, taken)
		}
	}
}
