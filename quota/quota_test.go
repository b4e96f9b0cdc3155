package quota_test

import (
	"math"
	"math/rand"
	"slices"
	"testing"

	"weirgate/api"
	"weirgate/quota"
)

func example() []api.Share {
	return []api.Share{{Weight: 1, Want: 10}, {Weight: 1, Want: 3}, {Weight: 2, Want: 20}}
}

func account(tenant, weight, used int) api.Account {
	return api.Account{Tenant: tenant, Weight: weight, Used: used}
}

func randomShares(r *rand.Rand) []api.Share {
	l := make([]api.Share, r.Intn(5))
	for i := range l {
		l[i] = api.Share{Weight: 1 + r.Intn(4), Want: r.Intn(15)}
	}
	return l
}

func sum(l []int) int {
	n := 0
	for _, x := range l {
		n += x
	}
	return n
}

func TestValid(t *testing.T) {
	for i, l := range [][]api.Share{nil, example(), {{Weight: api.MaxWeight, Want: api.MaxBytes}}, slices.Repeat([]api.Share{{Weight: 1}}, api.MaxTenants)} {
		if !quota.Valid(l) {
			t.Error("P16.1: valid shares:", i)
		}
	}
	for i, l := range [][]api.Share{{{}}, {{Weight: -1}}, {{Weight: api.MaxWeight + 1}}, {{Weight: 1, Want: -1}}, {{Weight: 1, Want: api.MaxBytes + 1}}, {{Weight: 1}, {Weight: 0}}, slices.Repeat([]api.Share{{Weight: 1}}, api.MaxTenants+1)} {
		if quota.Valid(l) {
			t.Error("P16.1: shares that are not valid:", i)
		}
	}
}

func TestExamples(t *testing.T) {
	if n := quota.Level(16, example()); n != 4 {
		t.Error("P16.1: Level:", n)
	}
	if l := quota.Fair(16, example()); !slices.Equal(l, []int{5, 3, 8}) {
		t.Error("P16.2: Fair:", l)
	}
	if n := quota.Level(100, example()); n != api.MaxBytes {
		t.Error("P16.1: Level:", n)
	}
	for i, x := range []struct {
		given []int
		ok    bool
	}{{[]int{4, 3, 9}, true}, {[]int{5, 3, 8}, true}, {[]int{6, 3, 7}, false}, {[]int{5, 3, 7}, false}, {[]int{5, 2, 9}, false}, {[]int{5, 3}, false}, {[]int{5, 3, 8, 0}, false}, {[]int{5, 4, 7}, false}, {[]int{-1, 3, 14}, false}, {[]int{math.MinInt, 3, math.MaxInt}, false}} {
		if quota.Explains(16, example(), x.given) != x.ok {
			t.Error("P16.3:", i)
		}
	}
	big := []api.Share{{Weight: api.MaxWeight, Want: api.MaxBytes}, {Weight: 1, Want: api.MaxBytes}, {Weight: 1, Want: 1}}
	n := quota.Level(api.MaxBytes, big)
	if given := quota.Fair(api.MaxBytes, big); sum(given) != api.MaxBytes || !quota.Explains(api.MaxBytes, big, given) || n != (api.MaxBytes-1)/(api.MaxWeight+1) {
		t.Error("P16.2: great numbers:", n, given)
	}
	single := []api.Share{{Weight: 1, Want: api.MaxBytes}}
	if quota.Level(api.MaxBytes, single) != api.MaxBytes || quota.Level(api.MaxBytes-1, single) != api.MaxBytes-1 || quota.Level(0, single) != 0 || quota.Level(0, nil) != api.MaxBytes {
		t.Error("P16.1: Level at the ends")
	}
	if !quota.Explains(0, nil, nil) || !quota.Explains(5, nil, nil) || quota.Explains(5, nil, []int{0}) {
		t.Error("P16.3: no shares")
	}
}

func TestFair(t *testing.T) {
	r := rand.New(rand.NewSource(1))
	for range 3000 {
		l := randomShares(r)
		capacity := r.Intn(40)
		level, weights, wants := 0, 0, 0
		for _, s := range l {
			weights, wants = weights+s.Weight, wants+s.Want
		}
		holds := func(n int) bool {
			sum := 0
			for _, s := range l {
				sum += min(n*s.Weight, s.Want)
			}
			return sum <= capacity
		}
		for level < 100 && holds(level+1) {
			level++
		}
		if level == 100 {
			level = api.MaxBytes
		}
		old := slices.Clone(l)
		if n := quota.Level(capacity, l); n != level {
			t.Fatal("P16.1: Level:", capacity, l, n)
		}
		given := quota.Fair(capacity, l)
		left := capacity
		for _, s := range l {
			left -= min(min(level, 100)*s.Weight, s.Want)
		}
		for i, s := range l {
			base := min(min(level, 100)*s.Weight, s.Want)
			more := min(left, s.Weight, s.Want-base)
			left -= more
			if given[i] != base+more {
				t.Fatal("P16.2: Fair:", capacity, l, given)
			}
			if given[i] < s.Want && given[i] < s.Weight*(capacity/weights) {
				t.Fatal("P16.6: less than its part:", capacity, l, given)
			}
		}
		if !quota.Explains(capacity, l, given) || !slices.Equal(l, old) || len(given) != len(l) {
			t.Fatal("P16.6: not explained:", capacity, l, given)
		}
		for i, g := range quota.Fair(capacity+1+r.Intn(3), l) {
			if g < given[i] {
				t.Fatal("P16.7: less with more:", capacity, l)
			}
		}
		// Explains is tried with other divisions.
		other := slices.Clone(given)
		for range 1 + r.Intn(2) {
			if len(l) > 0 {
				other[r.Intn(len(l))] += r.Intn(3) - 1
				other[r.Intn(len(l))] += r.Intn(3) - 1
			}
		}
		want := sum(other) == min(capacity, wants)
		exists := false
		for n := range 60 {
			ok := true
			for i, s := range l {
				ok = ok && (other[i] >= s.Want || other[i] >= n*s.Weight) && other[i] <= (n+1)*s.Weight
			}
			exists = exists || ok
		}
		for i, s := range l {
			want = want && other[i] >= 0 && other[i] <= s.Want
		}
		if quota.Explains(capacity, l, other) != (want && exists) {
			t.Fatal("P16.3: Explains:", capacity, l, other)
		}
	}
}

func TestAccounts(t *testing.T) {
	good := []api.Account{account(1, 1, 0), account(5, api.MaxWeight, api.MaxBytes), account(math.MaxInt, 2, 3)}
	if !quota.Accounts(good) || !quota.Accounts(nil) || quota.Total(good) != api.MaxBytes+3 || quota.Total(nil) != 0 {
		t.Error("P16.4: valid accounts")
	}
	for i, l := range [][]api.Account{{account(0, 1, 0)}, {account(-1, 1, 0)}, {account(2, 1, 0), account(2, 1, 0)}, {account(2, 1, 0), account(1, 1, 0)}, {account(1, 0, 0)}, {account(1, api.MaxWeight+1, 0)}, {account(1, 1, -1)}, {account(1, 1, api.MaxBytes+1)}} {
		if quota.Accounts(l) {
			t.Error("P16.4: accounts that are not valid:", i)
		}
	}
	var full []api.Account
	for i := range api.MaxTenants {
		full = append(full, account(2*i+2, 1, 0))
	}
	if !quota.Accounts(full) || quota.Accounts(append(full, account(9999, 1, 0))) {
		t.Error("P16.4: the number of accounts")
	}
	for i, x := range []struct {
		l              []api.Account
		tenant, weight int
		e              api.Errno
	}{
		{full, 0, 1, 1}, {full, 3, 0, 1}, {full, 3, api.MaxWeight + 1, 1}, {full, 4, 1, 6}, {full, 3, 1, 2}, {full, math.MinInt, 1, 1}, {good, 5, 1, 6}, {good, 5, 0, 1}, {good, 4, 7, 0}, {nil, 1, api.MaxWeight, 0}, {good, 6, 1, 0}, {full[1:], 1, 1, 0},
	} {
		old := slices.Clone(x.l)
		l, e := quota.Open(x.l, x.tenant, x.weight)
		if e != x.e || e != api.OK && l != nil || e == api.OK && (!quota.Accounts(l) || len(l) != len(x.l)+1 || !slices.Contains(l, account(x.tenant, x.weight, 0))) || !slices.Equal(old, x.l) {
			t.Error("P16.4: Open:", i, l, e)
		}
	}
	for i, x := range []struct {
		tenant, more, used int
		e                  api.Errno
	}{
		{1, 5, 5, 0}, {5, -api.MaxBytes, 0, 0}, {5, 1, 0, 1}, {1, -1, 0, 1}, {1, api.MaxBytes, api.MaxBytes, 0}, {1, api.MaxBytes + 1, 0, 1}, {5, -api.MaxBytes - 1, 0, 1}, {1, math.MinInt, 0, 1}, {1, math.MaxInt, 0, 1}, {2, 1, 0, 5}, {0, math.MinInt, 0, 5}, {math.MaxInt, -3, 0, 0},
	} {
		old := slices.Clone(good)
		l, e := quota.Use(good, x.tenant, x.more)
		if e != x.e || e != api.OK && l != nil || !slices.Equal(good, old) {
			t.Error("P16.4: Use:", i, l, e)
		}
		if e == api.OK {
			k := slices.IndexFunc(good, func(a api.Account) bool { return a.Tenant == x.tenant })
			old[k].Used = x.used
			if !slices.Equal(l, old) {
				t.Error("P16.4: Use:", i, l)
			}
		}
	}
}

func TestVictim(t *testing.T) {
	two := []api.Account{account(1, 1, 15), account(2, 1, 5)}
	for i, x := range []struct {
		capacity     int
		l            []api.Account
		tenant, more int
		want         int
		e            api.Errno
	}{
		{20, two, 2, 4, 1, 0}, {20, two, 1, 1, 0, 160}, {20, two, 2, 0, 0, 0}, {21, two, 1, 1, 0, 0}, {20, two, 3, -1, 0, 5}, {20, two, 2, -1, 0, 1}, {20, two, 2, api.MaxBytes + 1, 0, 1}, {20, two, 2, 5, 1, 0}, {20, two, 2, 6, 0, 160},
		{19, two, 2, 0, 1, 0}, {19, two, 1, 0, 0, 160}, {api.MaxBytes, []api.Account{account(1, 1, 5)}, 1, api.MaxBytes, 0, 160}, {8, []api.Account{account(3, 1, 5), account(4, 1, 5), account(9, 1, 0)}, 9, 2, 3, 0}, {9, []api.Account{account(3, 1, 5), account(4, 1, 5), account(9, 1, 0)}, 9, 2, 4, 0}, {9, []api.Account{account(3, 1, 4), account(4, 1, 5), account(9, 1, 0)}, 9, 2, 4, 0},
		{20, two, 1, math.MinInt, 0, 1},
	} {
		if v, e := quota.Victim(x.capacity, x.l, x.tenant, x.more); v != x.want || e != x.e {
			t.Error("P16.5:", i, v, e)
		}
	}
	r := rand.New(rand.NewSource(2))
	for range 5000 {
		l := make([]api.Account, 1+r.Intn(4))
		weights := 0
		for i := range l {
			l[i] = account(2*i+1, 1+r.Intn(3), r.Intn(12))
			weights += l[i].Weight
		}
		capacity, own, more := r.Intn(40), r.Intn(len(l)), r.Intn(8)
		v, e := quota.Victim(capacity, l, l[own].Tenant, more)
		if quota.Total(l)+more <= capacity {
			if v != 0 || e != api.OK {
				t.Fatal("P16.5: there is room:", capacity, l, v, e)
			}
			continue
		}
		var shares []api.Share
		for _, a := range l {
			shares = append(shares, api.Share{Weight: a.Weight, Want: a.Used})
		}
		shares[own].Want += more
		given := quota.Fair(capacity, shares)
		if given[own] < l[own].Used+more {
			if v != 0 || e != api.ErrQuota {
				t.Fatal("P16.5: no right:", capacity, l, v, e)
			}
			continue
		}
		want, most := 0, 0
		for i, a := range l {
			if i != own && a.Used-given[i] > most {
				want, most = a.Tenant, a.Used-given[i]
			}
		}
		if e != api.OK || v != want || v == 0 {
			t.Fatal("P16.5: the victim:", capacity, l, v, want, e)
		}
		a := l[(v-1)/2]
		if a.Used <= a.Weight*(capacity/weights) {
			t.Fatal("P16.8: a victim uses its part at most:", capacity, l, v)
		}
	}
}
