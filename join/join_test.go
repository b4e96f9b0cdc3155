package join_test

import (
	"math"
	"math/rand"
	"reflect"
	"slices"
	"strings"
	"testing"

	"weirgate/api"
	"weirgate/join"
	"weirgate/ranges"
)

func span(from, to int) api.Span { return api.Span{From: from, To: to} }

func set(l ...int) []api.Span {
	var s []api.Span
	for i := 0; i < len(l); i += 2 {
		s = append(s, span(l[i], l[i+1]))
	}
	return s
}

func fetch(id, from, to int) api.Fetch { return api.Fetch{ID: id, Span: span(from, to)} }

func ask(t *testing.T, j api.Joins, key string, who int, need ...int) (api.Joins, []api.Fetch) {
	t.Helper()
	k, f, e := join.Ask(j, key, who, set(need...))
	if e != api.OK || !join.Valid(k) {
		t.Fatal("Ask:", e)
	}
	return k, f
}

// example is the joins after the first three requests of the chapter's example.
func example(t *testing.T) api.Joins {
	j, one := ask(t, api.Joins{}, "k", 1, 0, 10)
	j, two := ask(t, j, "k", 2, 5, 15)
	j, three := ask(t, j, "k", 3, 0, 3)
	if !slices.Equal(one, []api.Fetch{fetch(1, 0, 10)}) || !slices.Equal(two, []api.Fetch{fetch(2, 10, 15)}) || len(three) != 0 {
		t.Error("P38.2:", one, two, three)
	}
	return j
}

func clone(j api.Joins) api.Joins {
	j.L = slices.Clone(j.L)
	for i, m := range j.L {
		j.L[i].Flying, j.L[i].Waiting = slices.Clone(m.Flying), slices.Clone(m.Waiting)
		for k, w := range m.Waiting {
			j.L[i].Waiting[k].Need = slices.Clone(w.Need)
		}
	}
	return j
}

func TestExample(t *testing.T) {
	j := example(t)
	old := clone(j)
	k, answered, fetches, e := join.Come(j, "k", 1, set(0, 10))
	if e != api.OK || !slices.Equal(answered, []int{1, 3}) || len(fetches) != 0 || !reflect.DeepEqual(k, api.Joins{Last: 2, L: []api.Miss{{Key: "k", Flying: []api.Fetch{fetch(2, 10, 15)}, Waiting: []api.Waiter{{ID: 2, Need: set(10, 15)}}}}}) {
		t.Error("P38.3:", k, answered, fetches, e)
	}
	k, answered, fetches, e = join.Come(j, "k", 1, set(0, 4))
	if e != api.OK || !slices.Equal(answered, []int{3}) || !slices.Equal(fetches, []api.Fetch{fetch(3, 4, 10)}) || k.Last != 3 || !slices.Equal(k.L[0].Flying, []api.Fetch{fetch(3, 4, 10), fetch(2, 10, 15)}) {
		t.Error("P38.3:", k, answered, fetches, e)
	}
	k, failed, dropped, e := join.Fail(j, "k", 2)
	if e != api.OK || !slices.Equal(failed, []int{2}) || len(dropped) != 0 || len(k.L[0].Waiting) != 2 {
		t.Error("P38.4:", k, failed, dropped, e)
	}
	k, dropped, e = join.Leave(j, "k", 2)
	if e != api.OK || !slices.Equal(dropped, []int{2}) || !slices.Equal(k.L[0].Flying, []api.Fetch{fetch(1, 0, 10)}) {
		t.Error("P38.5:", k, dropped, e)
	}
	if !slices.Equal(join.Flying(j, "k"), set(0, 15)) || len(join.Flying(j, "l")) != 0 || join.Waiting(j) != 3 || join.Waiting(api.Joins{}) != 0 {
		t.Error("P38.6")
	}
	k, failed, dropped, e = join.Fail(j, "k", 1)
	if e != api.OK || !slices.Equal(failed, []int{1, 2, 3}) || !slices.Equal(dropped, []int{2}) || !reflect.DeepEqual(k, api.Joins{Last: 2}) {
		t.Error("P38.4: all have failed:", k, failed, dropped, e)
	}
	k, answered, fetches, e = join.Come(j, "k", 1, nil)
	if e != api.OK || len(answered) != 0 || !slices.Equal(fetches, []api.Fetch{fetch(3, 0, 10)}) {
		t.Error("P38.3: nothing has come:", k, answered, fetches, e)
	}
	if !reflect.DeepEqual(j, old) {
		t.Error("arguments were changed")
	}
}

func TestErrors(t *testing.T) {
	j := example(t)
	long := strings.Repeat("k", api.MaxText+1)
	for i, x := range []struct {
		key  string
		who  int
		need []api.Span
		e    api.Errno
	}{{long, 9, set(0, 1), 1}, {"k", 9, nil, 1}, {"k", 9, set(3, 3), 1}, {"k", 9, set(0, 1, 1, 2), 1}, {"k", 2, set(50, 60), 6}, {"k", 2, nil, 1}} {
		if k, f, e := join.Ask(j, x.key, x.who, x.need); e != x.e || f != nil || !reflect.DeepEqual(k, j) {
			t.Error("P38.2:", i, e)
		}
	}
	for i, x := range []struct {
		key string
		id  int
		got []api.Span
		e   api.Errno
	}{{"l", 1, nil, 5}, {"k", 3, nil, 5}, {"k", 0, nil, 5}, {"k", math.MinInt, set(3, 2), 5}, {"k", 1, set(3, 2), 1}} {
		if k, a, f, e := join.Come(j, x.key, x.id, x.got); e != x.e || a != nil || f != nil || !reflect.DeepEqual(k, j) {
			t.Error("P38.3:", i, e)
		}
		if k, a, f, e := join.Fail(j, x.key, x.id); x.e == 5 && (e != 5 || a != nil || f != nil || !reflect.DeepEqual(k, j)) {
			t.Error("P38.4:", i, e)
		}
	}
	for i, x := range []struct {
		key string
		who int
	}{{"l", 1}, {"k", 4}, {"k", math.MinInt}} {
		if k, d, e := join.Leave(j, x.key, x.who); e != api.ErrName || d != nil || !reflect.DeepEqual(k, j) {
			t.Error("P38.5:", i, e)
		}
	}
	// Limits.
	var many api.Joins
	for i := range api.MaxMisses {
		many.L = append(many.L, api.Miss{Key: string([]byte{'a', byte('a' + i/26/26), byte('a' + i/26%26), byte('a' + i%26)}), Flying: []api.Fetch{fetch(i+1, 0, 1)}, Waiting: []api.Waiter{{ID: 1, Need: set(0, 1)}}})
	}
	many.Last = api.MaxMisses
	if !join.Valid(many) {
		t.Fatal("P38.1: many misses")
	}
	if k, _, e := join.Ask(many, "z", 1, set(0, 1)); e != api.ErrLimit || !reflect.DeepEqual(k, many) {
		t.Error("P38.2: too many misses:", e)
	}
	if _, _, e := join.Ask(many, "aaaa", 2, set(0, 1)); e != api.OK {
		t.Error("P38.2: a miss that is known:", e)
	}
	var crowd api.Joins
	for i := range api.MaxWaiting {
		crowd, _, _ = join.Ask(crowd, "k", i, set(0, 1))
	}
	if _, _, e := join.Ask(crowd, "k", 1000, set(0, 1)); e != api.ErrLimit || join.Waiting(crowd) != 1000 || !join.Valid(crowd) {
		t.Error("P38.2: too many waiters:", e)
	}
	if _, _, e := join.Ask(crowd, "k", 7, set(0, 1)); e != api.ErrTwice {
		t.Error("P38.2: ErrTwice comes first:", e)
	}
	late := api.Joins{Last: 1<<60 - 1}
	late, _, e := join.Ask(late, "k", 1, set(0, 10))
	if e != api.OK || late.Last != 1<<60 {
		t.Error("P38.2: the last number:", e)
	}
	if _, _, e := join.Ask(late, "k", 2, set(0, 11)); e != api.ErrLimit {
		t.Error("P38.2: no number is left:", e)
	}
	if _, _, e := join.Ask(late, "k", 2, set(0, 10)); e != api.OK {
		t.Error("P38.2: none is needed:", e)
	}
	old := clone(late)
	if k, a, f, e := join.Come(late, "k", 1<<60, set(0, 5)); e != api.ErrLimit || a != nil || f != nil || !reflect.DeepEqual(k, old) || !reflect.DeepEqual(late, old) {
		t.Error("P38.3: no number is left:", e)
	}
}

func TestValid(t *testing.T) {
	good := example(t)
	good, _ = ask(t, good, "l", -5, 0, 1, 3, 4)
	if !join.Valid(good) || !join.Valid(api.Joins{}) || !join.Valid(api.Joins{Last: 1 << 60}) {
		t.Error("P38.1: valid joins")
	}
	for i, change := range []func(j *api.Joins){
		func(j *api.Joins) { j.Last = -1 }, func(j *api.Joins) { j.Last = 1<<60 + 1 }, func(j *api.Joins) { j.Last = 3 }, func(j *api.Joins) { j.L[0].Key = "l" }, func(j *api.Joins) { j.L[0].Key = "z" }, func(j *api.Joins) { j.L[1].Key = strings.Repeat("l", api.MaxText+1) }, func(j *api.Joins) { j.L[0].Waiting = nil }, func(j *api.Joins) { j.L[0].Waiting[0].ID = 2 }, func(j *api.Joins) { j.L[0].Waiting[0].Need = nil },
		func(j *api.Joins) { j.L[0].Waiting[0].Need = set(3, 3) }, func(j *api.Joins) { j.L[0].Waiting[0].Need = set(0, 16) }, func(j *api.Joins) { j.L[0].Flying[1].Span.From = 9 }, func(j *api.Joins) { j.L[0].Flying[1].Span.From = 11 }, func(j *api.Joins) { j.L[0].Flying[1].ID = 1 }, func(j *api.Joins) { j.L[0].Flying[1].ID = 0 }, func(j *api.Joins) { j.L[1].Flying[0].ID = 2 },
		func(j *api.Joins) { f := j.L[0].Flying; f[0], f[1] = f[1], f[0] }, func(j *api.Joins) { j.L[0].Flying = j.L[0].Flying[:1] }, func(j *api.Joins) { j.Last++; j.L[0].Flying = append(j.L[0].Flying, fetch(j.Last, 20, 30)) }, func(j *api.Joins) { j.L[0].Flying[1].Span.To = 10 }, func(j *api.Joins) { j.L[0].Flying[0].Span.From = -1 }, func(j *api.Joins) { j.L[0].Flying[1].Span.To = api.MaxBytes + 1 },
	} {
		j := clone(good)
		change(&j)
		if join.Valid(j) {
			t.Error("P38.1: joins that are not valid:", i)
		}
	}
}

func randomSet(r *rand.Rand) []api.Span {
	var l []api.Span
	for range 1 + r.Intn(3) {
		from := r.Intn(12)
		l = append(l, span(from, from+1+r.Intn(4)))
	}
	return ranges.Of(l...)
}

func other(j api.Joins, key string) []api.Miss {
	return append([]api.Miss(nil), slices.DeleteFunc(slices.Clone(j.L), func(m api.Miss) bool { return m.Key == key })...)
}

// Whatever happens, joins are valid, and no byte is fetched twice at a time.
func TestRandom(t *testing.T) {
	for seed := range 150 {
		r := rand.New(rand.NewSource(int64(seed)))
		var j api.Joins
		needs := map[string]map[int][]api.Span{"a": {}, "b": {}} // what is still needed, by requests
		for range 120 {
			key := []string{"a", "b"}[r.Intn(2)]
			old := clone(j)
			var fetches []api.Fetch
			var flying []api.Fetch
			for _, m := range j.L {
				if m.Key == key {
					flying = m.Flying
				}
			}
			switch {
			case len(flying) == 0 || r.Intn(3) == 0:
				who, need := r.Intn(6), randomSet(r)
				was := join.Flying(j, key)
				k, f, e := join.Ask(j, key, who, need)
				if _, waits := needs[key][who]; waits {
					if e != api.ErrTwice || !reflect.DeepEqual(k, j) {
						t.Fatal("P38.2: ErrTwice:", seed, e)
					}
					continue
				}
				needs[key][who] = need
				var l []api.Span
				for _, x := range f {
					l = append(l, x.Span)
				}
				if e != api.OK || !slices.Equal(l, ranges.Minus(need, was)) {
					t.Fatal("P38.2: new fetches:", seed, f, e)
				}
				j, fetches = k, f
			case r.Intn(4) == 0:
				who := r.Intn(6)
				k, dropped, e := join.Leave(j, key, who)
				if _, waits := needs[key][who]; !waits {
					if e != api.ErrName {
						t.Fatal("P38.5:", seed, e)
					}
					continue
				}
				delete(needs[key], who)
				checkDropped(t, seed, flying, -1, dropped, needs[key])
				j = k
			case r.Intn(4) == 0:
				f := flying[r.Intn(len(flying))]
				k, failed, dropped, e := join.Fail(j, key, f.ID)
				var want []int
				for who := range 6 {
					if len(ranges.Meet(needs[key][who], []api.Span{f.Span})) > 0 {
						want = append(want, who)
						delete(needs[key], who)
					}
				}
				if e != api.OK || !slices.Equal(failed, want) {
					t.Fatal("P38.4:", seed, failed, want, e)
				}
				checkDropped(t, seed, flying, f.ID, dropped, needs[key])
				j = k
			default:
				f := flying[r.Intn(len(flying))]
				got := []api.Span{f.Span}
				if r.Intn(2) == 0 {
					got = randomSet(r)
				}
				k, answered, again, e := join.Come(j, key, f.ID, got)
				come := ranges.Meet(got, []api.Span{f.Span})
				var want []int
				var still []api.Span
				for who := range 6 {
					need, waits := needs[key][who]
					if !waits {
						continue
					}
					need = ranges.Minus(need, come)
					needs[key][who] = need
					if len(need) == 0 {
						want = append(want, who)
						delete(needs[key], who)
					}
					still = append(still, need...)
				}
				var l []api.Span
				for _, x := range again {
					l = append(l, x.Span)
				}
				if e != api.OK || !slices.Equal(answered, want) || !slices.Equal(l, ranges.Meet(ranges.Of(still...), ranges.Minus([]api.Span{f.Span}, got))) {
					t.Fatal("P38.3:", seed, answered, want, again, e)
				}
				j, fetches = k, again
			}
			for i, f := range fetches {
				if f.ID != old.Last+1+i || j.Last != old.Last+len(fetches) {
					t.Fatal("numbers of fetches:", seed, fetches)
				}
			}
			if !join.Valid(j) {
				t.Fatal("P38.7, P38.8:", seed, j)
			}
			if !reflect.DeepEqual(other(j, key), other(old, key)) {
				t.Fatal("P38.10:", seed, key)
			}
			for k, m := range needs {
				for who, need := range m {
					if len(ranges.Minus(need, join.Flying(j, k))) > 0 {
						t.Fatal("a needed byte is not fetched:", seed, k, who)
					}
				}
			}
			if join.Waiting(j) != len(needs["a"])+len(needs["b"]) {
				t.Fatal("P38.6: Waiting:", seed)
			}
		}
		// Now everything comes.
		for len(j.L) > 0 {
			m := j.L[r.Intn(len(j.L))]
			f := m.Flying[r.Intn(len(m.Flying))]
			var answered []int
			j, answered, _, _ = join.Come(j, m.Key, f.ID, []api.Span{f.Span})
			for _, who := range answered {
				if _, waits := needs[m.Key][who]; !waits {
					t.Fatal("P38.9: answered twice:", seed, who)
				}
				delete(needs[m.Key], who)
			}
		}
		if len(needs["a"])+len(needs["b"]) > 0 {
			t.Fatal("P38.9: somebody waits:", seed, needs)
		}
	}
}

// checkDropped checks that those fetches are dropped, but for one, of which nobody needs a byte.
func checkDropped(t *testing.T, seed int, flying []api.Fetch, but int, dropped []int, needs map[int][]api.Span) {
	t.Helper()
	var all []api.Span
	for _, n := range needs {
		all = append(all, n...)
	}
	var want []int
	for _, f := range flying {
		if f.ID != but && len(ranges.Meet(ranges.Of(all...), []api.Span{f.Span})) == 0 {
			want = append(want, f.ID)
		}
	}
	if !slices.Equal(dropped, want) {
		t.Fatal("P38.4, P38.5: what is dropped:", seed, dropped, want)
	}
}
