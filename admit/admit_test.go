package admit_test

import (
	"math"
	"math/rand"
	"reflect"
	"slices"
	"strconv"
	"strings"
	"testing"

	"weirgate/admit"
	"weirgate/api"
	"weirgate/quota"
	"weirgate/sketch"
)

func accounts(weights ...int) []api.Account {
	var l []api.Account
	for i, w := range weights {
		l = append(l, api.Account{Tenant: i + 1, Weight: w})
	}
	return l
}

func stored(name string, tenant, size, last int) api.Stored {
	return api.Stored{Name: name, Tenant: tenant, Size: size, Last: last}
}

func must(t *testing.T, capacity int, weights ...int) api.Shelf {
	t.Helper()
	k, _ := sketch.New(256, 1000)
	s, e := admit.New(capacity, accounts(weights...), k)
	if e != api.OK {
		t.Fatal("New:", e)
	}
	return s
}

func clone(s api.Shelf) api.Shelf {
	s.Accounts, s.Held, s.Sketch.Cells = slices.Clone(s.Accounts), slices.Clone(s.Held), slices.Clone(s.Sketch.Cells)
	return s
}

// with puts objects into a shelf by hand.
func with(s api.Shelf, l ...api.Stored) api.Shelf {
	s = clone(s)
	for _, h := range l {
		s.Held = append(s.Held, h)
		s.Accounts[h.Tenant-1].Used += h.Size
	}
	slices.SortFunc(s.Held, func(a, b api.Stored) int { return strings.Compare(a.Name, b.Name) })
	return s
}

func TestNewValid(t *testing.T) {
	k, _ := sketch.New(8, 100)
	for i, x := range []struct {
		capacity int
		l        []api.Account
		k        api.Sketch
		e        api.Errno
	}{
		{0, nil, k, 0}, {api.MaxBytes, accounts(1, 2), k, 0}, {-1, nil, k, 1}, {api.MaxBytes + 1, nil, k, 1}, {5, accounts(0), k, 1}, {5, []api.Account{{Tenant: 1, Weight: 1, Used: 1}}, k, 1}, {5, nil, api.Sketch{}, 1},
	} {
		s, e := admit.New(x.capacity, x.l, x.k)
		if e != x.e || e != api.OK && !reflect.DeepEqual(s, api.Shelf{}) || e == api.OK && (s.Capacity != x.capacity || !slices.Equal(s.Accounts, x.l) || len(s.Held) != 0 || !reflect.DeepEqual(s.Sketch, x.k) || !admit.Valid(s)) {
			t.Error("P17.1: New:", i, s, e)
		}
	}
	good := with(must(t, 20, 1, 1), stored("a", 1, 5, 0), stored("b", 2, 7, api.MaxTime), stored("c", 1, 8, 3))
	if !admit.Valid(good) {
		t.Error("P17.1: a valid shelf")
	}
	long := strings.Repeat("n", api.MaxText)
	if !admit.Valid(with(must(t, 9, 1), stored(long, 1, 9, 0))) || admit.Valid(with(must(t, 9, 1), stored(long+"n", 1, 9, 0))) {
		t.Error("P17.1: long names")
	}
	for i, change := range []func(s *api.Shelf){
		func(s *api.Shelf) { s.Capacity = -1 }, func(s *api.Shelf) { s.Capacity = api.MaxBytes + 1 }, func(s *api.Shelf) { s.Capacity = 19 }, func(s *api.Shelf) { s.Accounts[0].Used++ }, func(s *api.Shelf) { s.Accounts[0].Weight = 0 }, func(s *api.Shelf) { s.Accounts = s.Accounts[:1] },
		func(s *api.Shelf) { s.Sketch.Width = 3 }, func(s *api.Shelf) { s.Held[0].Name = "" }, func(s *api.Shelf) { s.Held[0].Name = "b" }, func(s *api.Shelf) { s.Held[0].Name = "z" }, func(s *api.Shelf) { s.Held[0].Tenant = 3 }, func(s *api.Shelf) { s.Held[0].Tenant = 2 }, func(s *api.Shelf) { s.Held[0].Tenant = math.MinInt },
		func(s *api.Shelf) { s.Held[0].Size, s.Accounts[0].Used = 0, 8 }, func(s *api.Shelf) { s.Held[0].Size, s.Accounts[0].Used = -5, 3 }, func(s *api.Shelf) { s.Held[0].Last = -1 }, func(s *api.Shelf) { s.Held[0].Last = api.MaxTime + 1 }, func(s *api.Shelf) { s.Held = s.Held[1:] },
	} {
		s := clone(good)
		change(&s)
		if admit.Valid(s) {
			t.Error("P17.1: a shelf that is not valid:", i)
		}
	}
	full := must(t, api.MaxBytes, 1)
	for i := range api.MaxHeld {
		full = api.Shelf{Capacity: full.Capacity, Accounts: full.Accounts, Sketch: full.Sketch, Held: append(full.Held, stored(strconv.Itoa(100000+i), 1, 1, 0))}
	}
	full.Accounts[0].Used = api.MaxHeld
	if !admit.Valid(full) {
		t.Error("P17.1: the greatest shelf")
	}
	if s, names, e := admit.Admit(full, stored("x", 1, 1, 0)); e != api.ErrLimit || names != nil || !reflect.DeepEqual(s, full) {
		t.Error("P17.3: too many objects:", e)
	}
	full.Held = append(full.Held, stored("x", 1, 1, 0))
	full.Accounts[0].Used++
	if admit.Valid(full) {
		t.Error("P17.1: too many objects")
	}
}

func TestTouch(t *testing.T) {
	s := with(must(t, 20, 1), stored("a", 1, 5, 7))
	for i, x := range []struct {
		name     string
		at, last int
	}{{"a", 9, 9}, {"a", 3, 7}, {"a", 7, 7}, {"b", 9, 7}, {"a", api.MaxTime, api.MaxTime}} {
		old := clone(s)
		y := admit.Touch(s, x.name, x.at)
		want := clone(s)
		want.Sketch = sketch.Add(s.Sketch, x.name)
		want.Held[0].Last = x.last
		if !reflect.DeepEqual(y, want) || !reflect.DeepEqual(s, old) {
			t.Error("P17.2:", i, y)
		}
		y.Held[0].Last = 1
		y.Accounts[0].Used = 1
		y.Sketch.Cells[0] = 99
		if !reflect.DeepEqual(s, old) {
			t.Error("P17.2: the result shares memory with the argument")
		}
	}
}

func TestExample(t *testing.T) {
	s := must(t, 10, 1, 1)
	s, names, e := admit.Admit(s, stored("a", 1, 8, 5))
	if e != api.OK || len(names) != 0 {
		t.Error("P17.4: a:", names, e)
	}
	s, names, e = admit.Admit(s, stored("b", 1, 2, 3))
	if e != api.OK || len(names) != 0 {
		t.Error("P17.4: b:", names, e)
	}
	c, names, e := admit.Admit(s, stored("c", 2, 4, 0))
	if e != api.OK || !slices.Equal(names, []string{"b", "a"}) || !slices.Equal(c.Held, []api.Stored{stored("c", 2, 4, 0)}) || c.Accounts[0].Used != 0 || c.Accounts[1].Used != 4 {
		t.Error("P17.4: c:", names, c, e)
	}
	for i, x := range []struct {
		h api.Stored
		e api.Errno
	}{
		{stored("d", 1, 11, 0), 2}, {stored("", 1, 11, 0), 1}, {stored(strings.Repeat("d", api.MaxText+1), 1, 1, 0), 1}, {stored("d", 1, 0, 0), 1}, {stored("d", 1, -1, 0), 1}, {stored("d", 1, api.MaxBytes+1, 0), 1}, {stored("d", 1, 1, -1), 1}, {stored("d", 1, 1, api.MaxTime+1), 1},
		{stored("d", 3, 11, 0), 5}, {stored("a", 3, 11, 0), 5}, {stored("a", 1, 11, 0), 6}, {stored("a", 2, 1, 0), 6}, {stored("d", math.MinInt, 1, 0), 5}, {stored("d", 1, 1, 0), 170}, {stored("d", 2, 6, 0), 160},
	} {
		l, e := admit.Victims(s, x.h)
		y, m, f := admit.Admit(s, x.h)
		if l != nil || e != x.e || m != nil || f != x.e || !reflect.DeepEqual(y, s) {
			t.Error("P17.3, P17.4:", i, l, e, f)
		}
	}
	r, e := admit.Remove(s, "z")
	if e != api.ErrName || !reflect.DeepEqual(r, s) {
		t.Error("P17.5:", e)
	}
	r, e = admit.Remove(s, "a")
	if e != api.OK || !slices.Equal(r.Held, []api.Stored{stored("b", 1, 2, 3)}) || r.Accounts[0].Used != 2 || len(s.Held) != 2 {
		t.Error("P17.5:", r, e)
	}
}

// slowVictims goes by the words of P17.3, for objects with which nothing is wrong.
func slowVictims(s api.Shelf, h api.Stored) ([]string, api.Errno) {
	left, l := slices.Clone(s.Held), slices.Clone(s.Accounts)
	var found []api.Stored
	for {
		sum := h.Size
		for _, x := range left {
			sum += x.Size
		}
		if sum <= s.Capacity {
			break
		}
		v, e := quota.Victim(s.Capacity, l, h.Tenant, h.Size)
		if e == api.ErrQuota {
			v = h.Tenant
		}
		best := -1
		for i, x := range left {
			if x.Tenant != v {
				continue
			}
			if best < 0 {
				best = i
				continue
			}
			y := left[best]
			cx, cy := sketch.Count(s.Sketch, x.Name), sketch.Count(s.Sketch, y.Name)
			if cx < cy || cx == cy && (x.Last < y.Last || x.Last == y.Last && x.Name < y.Name) {
				best = i
			}
		}
		if best < 0 {
			return nil, api.ErrQuota
		}
		found = append(found, left[best])
		l[v-1].Used -= left[best].Size
		left = slices.Delete(left, best, best+1)
	}
	var names []string
	for _, f := range found {
		if f.Tenant == h.Tenant && sketch.Count(s.Sketch, f.Name) >= sketch.Count(s.Sketch, h.Name) {
			return nil, api.ErrWorth
		}
		names = append(names, f.Name)
	}
	return names, api.OK
}

func TestRandom(t *testing.T) {
	r := rand.New(rand.NewSource(1))
	seen := map[api.Errno]int{}
	for range 150 {
		capacity := 5 + r.Intn(40)
		weights := make([]int, 1+r.Intn(3))
		total := 0
		for i := range weights {
			weights[i] = 1 + r.Intn(3)
			total += weights[i]
		}
		s := must(t, capacity, weights...)
		for at := range 60 {
			name := string(rune('a' + r.Intn(14)))
			if r.Intn(2) == 0 {
				s = admit.Touch(s, name, at)
				continue
			}
			old := clone(s)
			if r.Intn(6) == 0 {
				next, e := admit.Remove(s, name)
				i := slices.IndexFunc(s.Held, func(h api.Stored) bool { return h.Name == name })
				if (e == api.OK) != (i >= 0) || !reflect.DeepEqual(s, old) {
					t.Fatal("P17.5: Remove:", name, e)
				}
				if i >= 0 {
					if again, names, e := admit.Admit(next, s.Held[i]); e != api.OK || len(names) > 0 || !reflect.DeepEqual(again, s) {
						t.Fatal("P17.8: what was removed is not taken in again:", e)
					}
				}
				s = next
			} else {
				h := stored(name, 1+r.Intn(len(weights)), 1+r.Intn(12), r.Intn(at+1))
				next, names, e := admit.Admit(s, h)
				l, f := admit.Victims(s, h)
				seen[e]++
				if e != f || !slices.Equal(names, l) || !reflect.DeepEqual(s, old) || e != api.OK && (names != nil || !reflect.DeepEqual(next, s)) {
					t.Fatal("P17.4: Admit:", s, h, names, e)
				}
				room := h.Size <= capacity-quota.Total(s.Accounts)
				if room && e != api.OK && e != api.ErrTwice || room && len(names) > 0 {
					t.Fatal("P17.8: there is room:", s, h, e)
				}
				if e == api.OK || e == api.ErrQuota || e == api.ErrWorth {
					if l, f := slowVictims(s, h); f != e || !slices.Equal(l, names) {
						t.Fatal("P17.3: Victims:", s, h, names, e, l, f)
					}
				}
				if e == api.OK {
					want := clone(s)
					want.Held = slices.DeleteFunc(want.Held, func(x api.Stored) bool { return slices.Contains(names, x.Name) })
					want.Held = append(want.Held, h)
					slices.SortFunc(want.Held, func(a, b api.Stored) int { return strings.Compare(a.Name, b.Name) })
					if !slices.Equal(next.Held, want.Held) {
						t.Fatal("P17.4: what is held:", next.Held)
					}
				}
				for _, v := range names {
					i := slices.IndexFunc(s.Held, func(x api.Stored) bool { return x.Name == v })
					if o := s.Held[i].Tenant; o != h.Tenant && s.Accounts[o-1].Used <= weights[o-1]*(capacity/total) {
						t.Fatal("P17.7: a tenant loses its part:", s, h, names)
					}
				}
				s = next
			}
			if !admit.Valid(s) {
				t.Fatal("P17.6:", s)
			}
		}
	}
	for _, e := range []api.Errno{api.OK, api.ErrTwice, api.ErrLimit, api.ErrQuota, api.ErrWorth} {
		if seen[e] == 0 {
			t.Error("the test has not met", e)
		}
	}
}
