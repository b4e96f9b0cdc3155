package cond_test

import (
	"fmt"
	"math"
	"math/rand"
	"reflect"
	"slices"
	"strings"
	"testing"

	"weirgate/api"
	"weirgate/cond"
)

var always = api.Cond{To: api.MaxTime + 1}

// with returns always with a change.
func with(change func(c *api.Cond)) api.Cond {
	c := always
	change(&c)
	return c
}

func allSites() []int {
	var l []int
	for i := range api.MaxSites {
		l = append(l, i)
	}
	return l
}

func names(n int) []string {
	var l []string
	for i := range n {
		l = append(l, fmt.Sprintf("n%02d", i))
	}
	return l
}

func countries(n int) []string {
	var l []string
	for i := range n {
		l = append(l, string([]byte{'a' + byte(i/26), 'a' + byte(i%26)}))
	}
	return l
}

// good is an ask for which always holds.
func good() api.Ask {
	return api.Ask{Addr: "acme/a?q=1", Client: "bob-1", Country: "de", Site: 5, At: api.Period{Lo: 10, Hi: 20}}
}

// bad are conditions that are not valid.
func bad() []api.Cond {
	var l []api.Cond
	for _, change := range []func(c *api.Cond){
		func(c *api.Cond) { c.From = -1 }, func(c *api.Cond) { c.From = api.MaxTime + 1 }, func(c *api.Cond) { c.To = -1 }, func(c *api.Cond) { c.To = api.MaxTime + 2 }, func(c *api.Cond) { c.Pattern = "acme/" }, func(c *api.Cond) { c.Pattern = "~" },
		func(c *api.Cond) { c.Clients = []string{""} }, func(c *api.Cond) { c.Clients = []string{"a.b"} }, func(c *api.Cond) { c.Clients = []string{"A"} }, func(c *api.Cond) { c.Clients = []string{"b", "a"} }, func(c *api.Cond) { c.Clients = []string{"a", "a"} }, func(c *api.Cond) { c.Clients = names(33) },
		func(c *api.Cond) { c.Countries = []string{"d"} }, func(c *api.Cond) { c.Countries = []string{"deu"} }, func(c *api.Cond) { c.Countries = []string{"D1"} }, func(c *api.Cond) { c.Countries = []string{"d1"} }, func(c *api.Cond) { c.Countries = []string{"fr", "de"} }, func(c *api.Cond) { c.Countries = countries(33) },
		func(c *api.Cond) { c.Sites = []int{-1} }, func(c *api.Cond) { c.Sites = []int{api.MaxSites} }, func(c *api.Cond) { c.Sites = []int{2, 1} }, func(c *api.Cond) { c.Sites = []int{1, 1} }, func(c *api.Cond) { c.Uses = -1 }, func(c *api.Cond) { c.Uses = api.MaxUses + 1 }, func(c *api.Cond) { c.From = math.MinInt },
	} {
		l = append(l, with(change))
	}
	return l
}

func TestValid(t *testing.T) {
	full := api.Cond{From: api.MaxTime, To: api.MaxTime + 1, Pattern: "*/**", Clients: names(32), Countries: countries(32), Sites: allSites(), Uses: api.MaxUses}
	for i, c := range []api.Cond{{}, always, full, {From: 5}} {
		if !cond.Valid(c) {
			t.Error("P21.1: a valid condition:", i)
		}
	}
	for i, c := range bad() {
		if cond.Valid(c) || cond.Holds(c, good()) {
			t.Error("P21.1: a condition that is not valid:", i)
		}
		for _, x := range [][2]api.Cond{{c, always}, {always, c}, {api.Cond{}, c}} {
			m, e := cond.Meet(x[0], x[1])
			ok, a, f := cond.Implies(x[0], x[1])
			in, g := cond.Within(x[0], x[1])
			if e != 1 || f != 1 || g != 1 || ok || in || !reflect.DeepEqual(m, api.Cond{}) || a != (api.Ask{}) {
				t.Error("P21.2, P21.3: a condition that is not valid:", i, e, f, g)
			}
		}
		ok, a, e := cond.Empty(c)
		s, f := cond.Text(c)
		if ok || a != (api.Ask{}) || e != 1 || s != "" || f != 1 {
			t.Error("P21.2, P21.4: a condition that is not valid:", i, e, f)
		}
	}
	if !cond.ValidAsk(good()) || !cond.Holds(always, good()) {
		t.Error("P21.1: a valid ask")
	}
	for i, change := range []func(a *api.Ask){
		func(a *api.Ask) { a.Addr = "Acme" }, func(a *api.Ask) { a.Addr = "" }, func(a *api.Ask) { a.Addr = "acme/" }, func(a *api.Ask) { a.Client = "" }, func(a *api.Ask) { a.Client = "a.b" }, func(a *api.Ask) { a.Client = "Bob" }, func(a *api.Ask) { a.Country = "" }, func(a *api.Ask) { a.Country = "DE" }, func(a *api.Ask) { a.Country = "deu" },
		func(a *api.Ask) { a.Site = -1 }, func(a *api.Ask) { a.Site = api.MaxSites }, func(a *api.Ask) { a.At.Lo = -1 }, func(a *api.Ask) { a.At.Lo = 21 }, func(a *api.Ask) { a.At.Hi = api.MaxTime + 1 }, func(a *api.Ask) { a.Client = strings.Repeat("a", 65) },
	} {
		a := good()
		change(&a)
		if cond.ValidAsk(a) || cond.Holds(always, a) {
			t.Error("P21.1: an ask that is not valid:", i)
		}
	}
	a := good()
	a.At, a.Site, a.Country, a.Client = api.Period{Lo: api.MaxTime, Hi: api.MaxTime}, api.MaxSites-1, "zz", strings.Repeat("a", 64)
	if !cond.ValidAsk(a) || !cond.Holds(full2(), a) {
		t.Error("P21.1: the last ask")
	}
}

func full2() api.Cond { return api.Cond{From: api.MaxTime, To: api.MaxTime + 1, Uses: 3} }

func TestHolds(t *testing.T) {
	a := good()
	for i, x := range []struct {
		c  api.Cond
		ok bool
	}{
		{with(func(c *api.Cond) { c.From = 10 }), true}, {with(func(c *api.Cond) { c.From = 11 }), false}, {with(func(c *api.Cond) { c.To = 21 }), true}, {with(func(c *api.Cond) { c.To = 20 }), false}, {api.Cond{}, false},
		{with(func(c *api.Cond) { c.Pattern = "acme/*" }), true}, {with(func(c *api.Cond) { c.Pattern = "acme/b" }), false}, {with(func(c *api.Cond) { c.Clients = []string{"alice", "bob-1"} }), true}, {with(func(c *api.Cond) { c.Clients = []string{"alice"} }), false},
		{with(func(c *api.Cond) { c.Countries = []string{"de", "fr"} }), true}, {with(func(c *api.Cond) { c.Countries = []string{"fr"} }), false}, {with(func(c *api.Cond) { c.Sites = []int{4, 5} }), true}, {with(func(c *api.Cond) { c.Sites = []int{4, 6} }), false}, {with(func(c *api.Cond) { c.Uses = 1 }), true},
	} {
		if cond.Holds(x.c, a) != x.ok {
			t.Error("P21.1: Holds:", i)
		}
	}
}

func TestExamples(t *testing.T) {
	s, e := cond.Text(with(func(c *api.Cond) { c.Pattern, c.Sites = "acme/**", []int{1, 2} }))
	if s != "0 1099511627777 acme/** ~ ~ 1,2 0" || e != api.OK {
		t.Error("P21.4:", s, e)
	}
	on := func(l ...int) api.Cond { return with(func(c *api.Cond) { c.Sites = l }) }
	in := func(l ...string) api.Cond { return with(func(c *api.Cond) { c.Countries = l }) }
	if c, e := cond.Meet(on(1, 2), on(2, 3)); !reflect.DeepEqual(c, on(2)) || e != api.OK {
		t.Error("P21.3:", c, e)
	}
	if c, e := cond.Meet(on(1, 2), on(3)); !reflect.DeepEqual(c, api.Cond{}) || e != api.OK {
		t.Error("P21.3:", c, e)
	}
	if ok, a, e := cond.Implies(in("de", "fr"), in("de")); ok || a.Country != "fr" || e != api.OK {
		t.Error("P21.2:", ok, a, e)
	}
	if ok, a, e := cond.Implies(always, on(allSites()...)); !ok || a != (api.Ask{}) || e != api.OK {
		t.Error("P21.2:", ok, a, e)
	}
	if ok, a, _ := cond.Implies(always, on(allSites()[:63]...)); ok || a.Site != 63 {
		t.Error("P21.2:", ok, a)
	}
	if ok, _, e := cond.Empty(api.Cond{From: 5, To: 5}); !ok || e != api.OK {
		t.Error("P21.2:", ok, e)
	}
	if ok, a, e := cond.Empty(api.Cond{From: 5, To: 6}); ok || a.At != (api.Period{Lo: 5, Hi: 5}) || e != api.OK {
		t.Error("P21.2:", ok, a, e)
	}
	if ok, _, _ := cond.Implies(always, with(func(c *api.Cond) { c.Pattern = "*/**" })); !ok {
		t.Error("P21.2: a pattern for all addresses")
	}
	if ok, a, _ := cond.Implies(always, with(func(c *api.Cond) { c.Clients = names(32) })); ok || !cond.Holds(always, a) {
		t.Error("P21.2: a list of clients:", a)
	}
	if ok, a, _ := cond.Implies(always, in(countries(32)...)); ok || !cond.Holds(always, a) {
		t.Error("P21.2: a list of countries:", a)
	}
}

func TestWithin(t *testing.T) {
	uses := func(n int) api.Cond { return with(func(c *api.Cond) { c.Uses = n }) }
	for i, x := range []struct {
		a, b api.Cond
		ok   bool
	}{
		{uses(0), uses(0), true}, {uses(5), uses(0), true}, {uses(0), uses(5), false}, {uses(5), uses(5), true}, {uses(6), uses(5), false}, {uses(1), uses(5), true}, {api.Cond{}, uses(5), true}, {api.Cond{Uses: 9}, uses(5), true}, {uses(1), api.Cond{}, false}, {api.Cond{}, api.Cond{}, true},
		{with(func(c *api.Cond) { c.From, c.Uses = 3, 2 }), uses(2), true}, {uses(2), with(func(c *api.Cond) { c.From, c.Uses = 3, 2 }), false},
	} {
		if ok, e := cond.Within(x.a, x.b); ok != x.ok || e != api.OK {
			t.Error("P21.2: Within:", i, ok, e)
		}
	}
}

// universe are asks that tell apart the conditions of random.
func universe() []api.Ask {
	var l []api.Ask
	times := []int{0, 1, 2, 3, api.MaxTime}
	for _, addr := range []string{"acme/a", "acme/b.c", "acme/a/b", "bolt?x=1"} {
		for _, client := range []string{"a", "b", "c0"} {
			for _, country := range []string{"de", "fr", "aa"} {
				for _, site := range []int{0, 1, 7} {
					for i, lo := range times {
						for _, hi := range times[i:] {
							if hi == lo || (lo+len(l))%3 == 0 {
								l = append(l, api.Ask{Addr: addr, Client: client, Country: country, Site: site, At: api.Period{Lo: lo, Hi: hi}})
							}
						}
					}
				}
			}
		}
	}
	return l
}

func random(r *rand.Rand) api.Cond {
	c := api.Cond{From: r.Intn(3), To: []int{api.MaxTime + 1, api.MaxTime, 4, 3, 2, 1}[r.Intn(6)], Uses: r.Intn(4)}
	c.Pattern = []string{"", "", "*/**", "acme/**", "acme/*", "acme/a", "*/*.c", "bolt"}[r.Intn(8)]
	c.Clients = [][]string{nil, nil, {"a"}, {"a", "b"}, {"b"}}[r.Intn(5)]
	c.Countries = [][]string{nil, nil, {"de"}, {"de", "fr"}, {"fr"}}[r.Intn(5)]
	c.Sites = [][]int{nil, nil, {0}, {0, 1}, {1, 7}, allSites()}[r.Intn(6)]
	return c
}

func TestRandom(t *testing.T) {
	all := universe()
	r := rand.New(rand.NewSource(1))
	table := func(c api.Cond) []bool {
		l := make([]bool, len(all))
		for i, a := range all {
			l[i] = cond.Holds(c, a)
		}
		return l
	}
	for range 250 {
		a, b := random(r), random(r)
		x, y := table(a), table(b)
		implies, empty := true, true
		for i := range all {
			implies = implies && (!x[i] || y[i])
			empty = empty && !x[i]
		}
		ok, ask, e := cond.Implies(a, b)
		if ok != implies || e != api.OK || ok && ask != (api.Ask{}) || !ok && (!cond.Holds(a, ask) || cond.Holds(b, ask)) {
			t.Fatal("P21.2: Implies:", a, b, ok, ask)
		}
		ok, ask, e = cond.Empty(a)
		if ok != empty || e != api.OK || ok && ask != (api.Ask{}) || !ok && !cond.Holds(a, ask) {
			t.Fatal("P21.2: Empty:", a, ok, ask)
		}
		m, e := cond.Meet(a, b)
		if e != api.OK || !cond.Valid(m) {
			t.Fatal("P21.3: Meet:", a, b, m, e)
		}
		for i, h := range table(m) {
			if h != (x[i] && y[i]) {
				t.Fatal("P21.5: Meet:", a, b, m, all[i])
			}
		}
		none, _, _ := cond.Empty(m)
		if none != reflect.DeepEqual(m, api.Cond{}) {
			t.Fatal("P21.3: an empty Meet is never:", a, b, m)
		}
		if other, _ := cond.Meet(b, a); !reflect.DeepEqual(other, m) {
			t.Fatal("P21.5: Meet is not commutative:", a, b)
		}
		if self, _ := cond.Meet(a, a); !empty && !reflect.DeepEqual(self, a) {
			t.Fatal("P21.5: Meet with itself:", a, self)
		}
		if !none && m.Uses != min(cmpUses(a.Uses), cmpUses(b.Uses))%math.MaxInt {
			t.Fatal("P21.3: Uses:", a, b, m)
		}
	}
}

// cmpUses is the number of uses, very many for 0.
func cmpUses(n int) int {
	if n == 0 {
		return math.MaxInt
	}
	return n
}

func TestLaws(t *testing.T) {
	r := rand.New(rand.NewSource(2))
	within := 0
	for range 6000 {
		a, b, c := random(r), random(r), random(r)
		ab, _ := cond.Meet(a, b)
		bc, _ := cond.Meet(b, c)
		x, _ := cond.Meet(ab, c)
		y, _ := cond.Meet(a, bc)
		if !reflect.DeepEqual(x, y) {
			t.Fatal("P21.5: Meet is not associative:", a, b, c)
		}
		one, _ := cond.Within(ab, a)
		two, _ := cond.Within(ab, b)
		if !one || !two {
			t.Fatal("P21.6: Meet is not within:", a, b, ab)
		}
		ca, _ := cond.Within(c, a)
		cb, _ := cond.Within(c, b)
		cm, _ := cond.Within(c, ab)
		if ca && cb != cm || cm && !ca {
			t.Fatal("P21.6:", a, b, c)
		}
		if ba, _ := cond.Within(a, b); ca && ba {
			within++
			if !cb {
				t.Fatal("P21.6: Within is not transitive:", a, b, c)
			}
		}
		old := slices.Clone(a.Sites)
		m, _ := cond.Meet(a, always)
		for i := range m.Sites {
			m.Sites[i] = 99
		}
		if !slices.Equal(old, a.Sites) {
			t.Fatal("Meet shares memory with its argument")
		}
		s, e := cond.Text(a)
		p, f := cond.Parse(s)
		if e != api.OK || f != api.OK || !reflect.DeepEqual(p, a) {
			t.Fatal("P21.7:", a, s, p)
		}
	}
	if within == 0 {
		t.Error("the test has met nothing that is within")
	}
}

func TestParse(t *testing.T) {
	full := api.Cond{From: 3, To: 9, Pattern: "*/*.css/**", Clients: []string{"a", "b"}, Countries: []string{"de", "fr"}, Sites: []int{0, 63}, Uses: 7}
	if s, e := cond.Text(full); s != "3 9 */*.css/** a,b de,fr 0,63 7" || e != api.OK {
		t.Error("P21.4:", s, e)
	}
	if c, e := cond.Parse("3 9 */*.css/** a,b de,fr 0,63 7"); !reflect.DeepEqual(c, full) || e != api.OK {
		t.Error("P21.4:", c, e)
	}
	if c, e := cond.Parse("0 0 ~ ~ ~ ~ 0"); !reflect.DeepEqual(c, api.Cond{}) || e != api.OK {
		t.Error("P21.4: never:", c, e)
	}
	for _, s := range []string{
		"", " ", "0 0 ~ ~ ~ ~", "0 0 ~ ~ ~ ~ 0 ", " 0 0 ~ ~ ~ ~ 0", "0  0 ~ ~ ~ ~ 0", "0 0 ~ ~ ~ ~ 0 0", "00 0 ~ ~ ~ ~ 0", "+0 0 ~ ~ ~ ~ 0", "-0 0 ~ ~ ~ ~ 0", "-1 0 ~ ~ ~ ~ 0", "0 x ~ ~ ~ ~ 0", "0 1099511627778 ~ ~ ~ ~ 0", "0 99999999999999999999999 ~ ~ ~ ~ 0",
		"0 0  ~ ~ ~ 0", "0 0 acme/ ~ ~ ~ 0", "0 0 ~ a,a ~ ~ 0", "0 0 ~ b,a ~ ~ 0", "0 0 ~ a, ~ ~ 0", "0 0 ~ ~,a ~ ~ 0", "0 0 ~ ~ de,de ~ 0", "0 0 ~ ~ xyz ~ 0", "0 0 ~ ~ ~ 01 0", "0 0 ~ ~ ~ 2,1 0", "0 0 ~ ~ ~ 64 0", "0 0 ~ ~ ~ x 0", "0 0 ~ ~ ~ ~ 1073741825", "0 0 ~ ~ ~ ~ ~", "0 0 ~ ~ ~ ~ 0\n",
		"0\t0 ~ ~ ~ ~ 0", "0 0 ~ ~ ~ 1,,2 0",
	} {
		if c, e := cond.Parse(s); e != api.ErrForm || !reflect.DeepEqual(c, api.Cond{}) {
			t.Errorf("P21.4: Parse(%q): %v %d", s, c, e)
		}
	}
}
