package policy_test

import (
	"math/rand"
	"reflect"
	"slices"
	"strings"
	"testing"

	"weirgate/address"
	"weirgate/api"
	"weirgate/cond"
	"weirgate/hash"
	"weirgate/policy"
)

var always = api.Cond{To: api.MaxTime + 1}

func rule(name, pattern string, tags ...string) api.Rule {
	return api.Rule{Name: name, Pattern: pattern, Tags: tags, Allow: always}
}

func example() []api.Rule {
	r1, r2 := rule("r1", "acme/news/**", "hot"), rule("r2", "acme/**")
	r1.Fresh = 10
	r2.Fresh, r2.Stale, r2.Down, r2.Negative = 100, 50, 1000, 5
	return []api.Rule{r1, r2}
}

func at(lo, hi int) api.Period { return api.Period{Lo: lo, Hi: hi} }

func TestValid(t *testing.T) {
	full := api.Rule{Name: strings.Repeat("n", 64), Pattern: "*/**", Tags: []string{"a", "b"}, Fresh: api.MaxTime, Stale: api.MaxTime, Down: api.MaxTime, Negative: api.MaxTime, Vary: make([]api.Vary, api.MaxVary), Allow: api.Cond{}, Signed: true, Cost: api.MaxPrice, Program: strings.Repeat("\xff", 64)}
	if !policy.Valid(full) || !policy.Valid(rule("a", "acme")) {
		t.Error("P22.1: valid rules")
	}
	for i, change := range []func(r *api.Rule){
		func(r *api.Rule) { r.Name = "" }, func(r *api.Rule) { r.Name = "a.b" }, func(r *api.Rule) { r.Name = "A" }, func(r *api.Rule) { r.Pattern = "" }, func(r *api.Rule) { r.Pattern = "acme/" }, func(r *api.Rule) { r.Tags = []string{"b", "a"} }, func(r *api.Rule) { r.Tags = []string{"a", "a"} }, func(r *api.Rule) { r.Tags = []string{""} }, func(r *api.Rule) { r.Tags = []string{"a,b"} },
		func(r *api.Rule) { r.Fresh = -1 }, func(r *api.Rule) { r.Fresh = api.MaxTime + 1 }, func(r *api.Rule) { r.Stale = -1 }, func(r *api.Rule) { r.Stale = api.MaxTime + 1 }, func(r *api.Rule) { r.Down = -1 }, func(r *api.Rule) { r.Down = api.MaxTime + 1 }, func(r *api.Rule) { r.Negative = -1 }, func(r *api.Rule) { r.Negative = api.MaxTime + 1 },
		func(r *api.Rule) { r.Vary = make([]api.Vary, api.MaxVary+1) }, func(r *api.Rule) { r.Allow.From = -1 }, func(r *api.Rule) { r.Cost = -1 }, func(r *api.Rule) { r.Cost = api.MaxPrice + 1 }, func(r *api.Rule) { r.Program = strings.Repeat("p", 65) },
	} {
		r := full
		change(&r)
		if policy.Valid(r) {
			t.Error("P22.1: a rule that is not valid:", i)
		}
		if e := policy.Check(api.Policy{Customer: "acme", Party: 1, Rules: []api.Rule{r}}); e != api.ErrRule {
			t.Error("P22.1: a rule that is not valid:", i, e)
		}
	}
}

func TestCheck(t *testing.T) {
	many := func(n int) []api.Rule {
		var l []api.Rule
		for i := range n {
			l = append(l, rule("r"+strings.Repeat("x", i%60)+string(rune('a'+i/60)), "acme"))
		}
		return l
	}
	a, b := rule("a", "acme/**"), rule("b", "bolt/**")
	broken := rule("", "bolt")
	for i, x := range []struct {
		p api.Policy
		e api.Errno
	}{
		{api.Policy{Customer: "acme", Party: 1}, 0}, {api.Policy{Customer: "acme", Party: api.MaxParty, Rules: many(64)}, 0}, {api.Policy{Customer: "acme", Party: 1, Rules: many(65)}, 2}, {api.Policy{Customer: "a.b", Party: 1, Rules: many(65)}, 1}, {api.Policy{Customer: "", Party: 1}, 1},
		{api.Policy{Customer: "acme", Party: 0}, 1}, {api.Policy{Customer: "acme", Party: -1}, 1}, {api.Policy{Customer: "acme", Party: api.MaxParty + 1}, 1}, {api.Policy{Customer: "acme", Party: 1, Rules: []api.Rule{a, rule("b", "acme")}}, 0}, {api.Policy{Customer: "acme", Party: 1, Rules: []api.Rule{a, b, broken}}, 221},
		{api.Policy{Customer: "acme", Party: 1, Rules: []api.Rule{a, broken, b}}, 220}, {api.Policy{Customer: "acme", Party: 1, Rules: []api.Rule{a, a, broken}}, 6}, {api.Policy{Customer: "acme", Party: 1, Rules: []api.Rule{a, rule("a", "bolt")}}, 221}, {api.Policy{Customer: "acme", Party: 1, Rules: []api.Rule{rule("a", "*/**")}}, 221}, {api.Policy{Customer: "acme", Party: 1, Rules: []api.Rule{rule("a", "acme2/a")}}, 221},
		{api.Policy{Customer: "acme", Party: 1, Rules: []api.Rule{rule("a", "acme2")}}, 221}, {api.Policy{Customer: "acme", Party: 1, Rules: []api.Rule{rule("a", "acm")}}, 221},
	} {
		if e := policy.Check(x.p); e != x.e {
			t.Error("P22.1: Check:", i, e)
		}
	}
}

func TestChoose(t *testing.T) {
	l := example()
	for i, x := range []struct {
		addr, tags string
		want       int
	}{{"acme/news/a", "hot,x", 0}, {"acme/news/a", "x", 1}, {"acme", "", 1}, {"bolt/a", "hot", -1}, {"acme/news/a", "x,hot", 1}, {"acme/News", "hot", -1}, {"acme/news?q=1", "hot", 0}} {
		if n := policy.Choose(l, x.addr, x.tags); n != x.want {
			t.Error("P22.2: Choose:", i, n)
		}
	}
	if !slices.Equal(policy.Possible(l, "acme/news/a"), []int{0, 1}) || !slices.Equal(policy.Possible(l, "acme/x"), []int{1}) || len(policy.Possible(l, "bolt")) != 0 || policy.Choose(nil, "acme", "") != -1 || len(policy.Possible(nil, "acme")) != 0 {
		t.Error("P22.2: Possible")
	}
	if p := policy.Possible(append(example(), rule("z", "acme/news/*")), "acme/news/a"); !slices.Equal(p, []int{0, 1}) {
		t.Error("P22.2: rules behind one without tags:", p)
	}
	both := rule("b", "acme/**", "x", "y")
	if !policy.Matches(both, "acme", "w,x,y") || policy.Matches(both, "acme", "x,z") || policy.Matches(both, "acme", "y,x") || policy.Matches(both, "bolt", "x,y") {
		t.Error("P22.2: Matches")
	}
	r := rand.New(rand.NewSource(1))
	pick := func(l ...string) string { return l[r.Intn(len(l))] }
	for range 3000 {
		var l []api.Rule
		for range r.Intn(5) {
			l = append(l, rule("r", pick("a/**", "a/x", "*/*", "b"), [][]string{nil, {"p"}, {"p", "q"}, {"q"}}[r.Intn(4)]...))
		}
		addr, tags := pick("a/x", "a", "b", "c/x", "a/x/y"), pick("", "p", "p,q", "q", "o,p,q")
		want, possible, over := -1, []int{}, false
		for i, x := range l {
			has := true
			for _, tag := range x.Tags {
				has = has && address.HasTag(tags, tag)
			}
			m := address.Match(x.Pattern, addr)
			if policy.Matches(x, addr, tags) != (m && has) {
				t.Fatal("P22.2: Matches:", x, addr, tags)
			}
			if m && has && want < 0 {
				want = i
			}
			if m && !over {
				possible = append(possible, i)
				over = len(x.Tags) == 0
			}
		}
		if policy.Choose(l, addr, tags) != want || !slices.Equal(policy.Possible(l, addr), possible) {
			t.Fatal("P22.2:", l, addr, tags)
		}
		if want >= 0 && !slices.Contains(possible, want) {
			t.Fatal("P22.7: the chosen rule is not possible:", l, addr, tags)
		}
	}
}

func TestAges(t *testing.T) {
	r2 := example()[1]
	for i, x := range []struct{ status, state, want int }{{200, api.PoFresh, 100}, {200, api.PoStale, 150}, {200, api.PoDown, 1100}, {404, api.PoFresh, 5}, {404, api.PoStale, 5}, {500, api.PoDown, 5}, {201, api.PoFresh, 5}} {
		if n := policy.MaxAge(r2, x.status, x.state); n != x.want {
			t.Error("P22.3:", i, n)
		}
	}
	big := api.Rule{Fresh: api.MaxTime, Stale: 5, Down: api.MaxTime}
	if policy.MaxAge(big, 200, api.PoStale) != api.MaxTime || policy.MaxAge(big, 200, api.PoDown) != api.MaxTime {
		t.Error("P22.3: at most MaxTime")
	}
	s := api.Stamp{Status: 200, At: at(20, 30)}
	if policy.Until(r2, s, api.PoFresh) != 120 || policy.Until(r2, s, api.PoDown) != 1120 || policy.Until(big, s, api.PoFresh) != api.MaxTime {
		t.Error("P22.4: Until")
	}
	if !policy.Young(r2, s, at(110, 120), api.PoFresh) || policy.Young(r2, s, at(110, 121), api.PoFresh) || !policy.Young(r2, s, at(5, 6), api.PoFresh) {
		t.Error("P22.4: Young")
	}
	if policy.Age(s, at(25, 26)) != 6 || policy.Age(s, at(5, 6)) != 0 || policy.Age(s, at(0, 20)) != 0 || policy.Age(s, at(0, 21)) != 1 {
		t.Error("P22.4: Age")
	}
	r := rand.New(rand.NewSource(2))
	for range 5000 {
		x := api.Rule{Fresh: r.Intn(20), Stale: r.Intn(20), Down: r.Intn(20), Negative: r.Intn(20)}
		lo := r.Intn(50)
		s := api.Stamp{Status: []int{200, 404}[r.Intn(2)], At: at(lo, lo+r.Intn(10))}
		from := r.Intn(100)
		now := at(from, from+r.Intn(20))
		for _, state := range []int{api.PoFresh, api.PoStale, api.PoDown} {
			young := policy.Young(x, s, now, state)
			if young != (policy.Age(s, now) <= policy.MaxAge(x, s.Status, state)) || young != (now.Hi <= policy.Until(x, s, state)) {
				t.Fatal("P22.4, P22.8:", x, s, now, state)
			}
			if young && !policy.Young(x, s, at(now.Lo/2, now.Hi-1), state) && now.Hi > now.Lo/2 {
				t.Fatal("P22.8: an earlier period:", x, s, now)
			}
			later := s
			later.At.Lo++
			if young && !policy.Young(x, later, now, state) || !young && policy.Young(x, s, now, api.PoFresh) {
				t.Fatal("P22.8: a later stamp, or another state:", x, s, now)
			}
			for purge := -1; purge < 5; purge++ {
				want := purge == 0 && young || purge == 1 && young && state != api.PoFresh
				if purge >= 0 && purge <= 2 && policy.Usable(x, s, now, state, purge) != want {
					t.Fatal("P22.5, P22.9:", x, s, now, state, purge)
				}
			}
		}
	}
}

func TestPermits(t *testing.T) {
	a := api.Ask{Addr: "acme/a", Client: "bob", Country: "de", At: at(5, 6)}
	x := rule("r", "acme/**")
	if !policy.Permits(x, a) {
		t.Error("P22.6: always")
	}
	x.Allow = api.Cond{To: 6}
	if policy.Permits(x, a) {
		t.Error("P22.6: too late")
	}
	x.Allow = api.Cond{To: 7, Countries: []string{"de"}, Uses: 1}
	if !policy.Permits(x, a) || policy.Permits(x, api.Ask{}) {
		t.Error("P22.6: a country")
	}
}

func TestName(t *testing.T) {
	r := rule("r2", "acme/**", "a", "b")
	r.Fresh, r.Stale, r.Down, r.Negative, r.Cost, r.Signed, r.Program = 1, 2, 3, 4, 5, true, "p"
	r.Allow = api.Cond{From: 3, To: 9, Sites: []int{1, 2}}
	r.Vary = []api.Vary{{Header: "h", Values: []string{"x", "y"}, Default: "y"}, {Header: "i"}}
	p := api.Policy{Customer: "acme", Party: 77, Rules: []api.Rule{r, rule("z", "acme")}}
	text, _ := cond.Text(r.Allow)
	open, _ := cond.Text(always)
	want := hash.Of(22, "acme", "77", "r2", "acme/**", "a,b", "1 2 3 4 5", text, "signed", "p", "2", "h", "x y", "y", "i", "", "", "z", "acme", "", "0 0 0 0 0", open, "open", "", "0")
	if policy.Name(p) != want {
		t.Error("P22.6: Name")
	}
	if policy.Name(api.Policy{Customer: "acme", Party: 7}) != hash.Of(22, "acme", "7") {
		t.Error("P22.6: Name without rules")
	}
	seen := map[api.Digest]int{want: -1}
	for i, change := range []func(r *api.Rule){
		func(r *api.Rule) { r.Name = "r3" }, func(r *api.Rule) { r.Pattern = "acme" }, func(r *api.Rule) { r.Tags = r.Tags[:1] }, func(r *api.Rule) { r.Fresh = 9 }, func(r *api.Rule) { r.Stale = 9 }, func(r *api.Rule) { r.Down = 9 }, func(r *api.Rule) { r.Negative = 9 }, func(r *api.Rule) { r.Cost = 9 },
		func(r *api.Rule) { r.Signed = false }, func(r *api.Rule) { r.Program = "q" }, func(r *api.Rule) { r.Allow.Uses = 1 }, func(r *api.Rule) { r.Vary = r.Vary[:1] }, func(r *api.Rule) { r.Vary[0].Header = "g" }, func(r *api.Rule) { r.Vary[0].Values = []string{"y"} }, func(r *api.Rule) { r.Vary[0].Default = "" },
	} {
		q := p
		q.Rules = slices.Clone(p.Rules)
		q.Rules[0].Vary = slices.Clone(r.Vary)
		old := reflect.DeepEqual(q, p)
		change(&q.Rules[0])
		if _, ok := seen[policy.Name(q)]; ok || !old {
			t.Error("P22.6: the name does not tell:", i)
		}
		seen[policy.Name(q)] = i
	}
}
