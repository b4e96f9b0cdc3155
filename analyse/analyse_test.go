package analyse_test

import (
	"math"
	"math/rand"
	"slices"
	"strings"
	"testing"

	"weirgate/address"
	"weirgate/analyse"
	"weirgate/api"
	"weirgate/cond"
	"weirgate/policy"
	"weirgate/variant"
)

var always = api.Cond{To: api.MaxTime + 1}

func rule(name, pattern string, tags ...string) api.Rule {
	return api.Rule{Name: name, Pattern: pattern, Tags: tags, Allow: always}
}

// universe has addresses that tell apart the patterns of randomPattern: also words that none of them names.
func universe() []string {
	var l []string
	paths := []string{""}
	for range 4 {
		var next []string
		for _, p := range paths {
			for _, c := range []string{"a", "b", "z"} {
				l = append(l, c+p)
			}
			for _, w := range []string{"a", "b", "z", "a.b", "z.b", "x.a.b", "z.a.b", ".b", "b.a"} {
				next = append(next, p+"/"+w)
			}
		}
		paths = next
	}
	return l
}

func randomPattern(r *rand.Rand) string {
	p := []string{"a", "b", "*"}[r.Intn(3)]
	for range r.Intn(3) {
		p += "/" + []string{"a", "a.b", "x.a.b", "*", "*", "*.b", "*.a.b"}[r.Intn(7)]
	}
	if r.Intn(2) == 0 {
		p += "/**"
	}
	return p
}

func matchesAny(by []string, addr string) bool {
	return slices.ContainsFunc(by, func(q string) bool { return address.Match(q, addr) })
}

func TestGapExamples(t *testing.T) {
	for i, x := range []struct {
		p    string
		by   []string
		want string
		gap  bool
	}{
		{"acme/**", []string{"acme", "acme/*", "acme/*/**"}, "", false}, {"acme/**", []string{"acme/*", "acme/*/**"}, "acme", true}, {"acme/*", []string{"acme/*.css", "acme/a"}, "acme/w0", true}, {"acme", nil, "acme", true}, {"acme/a", []string{"*/*"}, "", false}, {"*", []string{"w0", "w1"}, "w2", true},
		{"acme/*.css", []string{"acme/w0.css", "acme/*.b.css"}, "acme/w1.css", true}, {"acme/*.b.css", []string{"acme/*.css"}, "", false}, {"acme/a.css", []string{"acme/*.css"}, "", false}, {"acme/a.css", []string{"acme/*.a.css"}, "acme/a.css", true}, {"*/**", []string{"*/**"}, "", false}, {"acme/*/*", []string{"acme/w0/**"}, "acme/w1/w1", true},
		{"acme" + strings.Repeat("/*", 30) + "/**", []string{"acme" + strings.Repeat("/*", 30), "acme" + strings.Repeat("/*", 31)}, "acme" + strings.Repeat("/w0", 32), true}, {"acme" + strings.Repeat("/*", 31) + "/**", []string{"acme" + strings.Repeat("/*", 31), "acme" + strings.Repeat("/*", 32)}, "", false}, {"acme" + strings.Repeat("/*", 32), []string{"acme/**"}, "", false},
	} {
		addr, ok, e := analyse.Gap(x.p, x.by)
		if e != api.OK || ok != x.gap || !ok && addr != "" {
			t.Error("P24.1:", i, addr, ok, e)
		}
		if ok && (!address.Match(x.p, addr) || matchesAny(x.by, addr)) {
			t.Error("P24.1: no example:", i, addr)
		}
	}
	many := slices.Repeat([]string{"acme"}, api.MaxRules)
	if _, ok, e := analyse.Gap("acme", many); ok || e != api.OK {
		t.Error("P24.1: many patterns:", e)
	}
	for i, x := range []struct {
		p  string
		by []string
	}{{"acme/", nil}, {"", nil}, {"acme", []string{"acme", "A"}}, {"acme", append(many, "acme")}, {"**", nil}} {
		if addr, ok, e := analyse.Gap(x.p, x.by); addr != "" || ok || e != api.ErrArg {
			t.Error("P24.1:", i, addr, ok, e)
		}
	}
}

func TestGapRandom(t *testing.T) {
	all := universe()
	r := rand.New(rand.NewSource(1))
	gaps := 0
	for range 300 {
		p := randomPattern(r)
		var by []string
		for range r.Intn(6) {
			by = append(by, randomPattern(r))
		}
		if r.Intn(2) == 0 { // so that there are fewer gaps
			by = append(by, "*/*/**", p[:strings.IndexByte(p+"/", '/')])
		}
		addr, ok, e := analyse.Gap(p, by)
		if e != api.OK || ok && (!address.Match(p, addr) || matchesAny(by, addr) || strings.Contains(addr, "?")) || !ok && addr != "" {
			t.Fatal("P24.1:", p, by, addr, e)
		}
		want := slices.ContainsFunc(all, func(a string) bool { return address.Match(p, a) && !matchesAny(by, a) })
		if ok != want {
			t.Fatal("P24.1, P24.9:", p, by, addr, ok)
		}
		if ok {
			gaps++
		}
	}
	if gaps < 50 || gaps > 250 {
		t.Error("the test is one-sided:", gaps)
	}
}

func TestRuleExamples(t *testing.T) {
	l := []api.Rule{rule("r1", "acme/**", "hot"), rule("r2", "acme/a", "hot", "new"), rule("r3", "acme/a")}
	if addr, ok, e := analyse.Shadowed(l, 1); addr != "" || !ok || e != api.OK {
		t.Error("P24.2:", addr, ok, e)
	}
	if addr, ok, e := analyse.Shadowed(l, 2); addr != "acme/a" || ok || e != api.OK {
		t.Error("P24.2:", addr, ok, e)
	}
	if ask, ok, e := analyse.Dead(l, 2); ok || ask.Addr != "acme/a" || e != api.OK {
		t.Error("P24.3:", ask, ok, e)
	}
	l[2].Allow.Pattern = "acme/b"
	if ask, ok, e := analyse.Dead(l, 2); !ok || ask != (api.Ask{}) || e != api.OK {
		t.Error("P24.3:", ask, ok, e)
	}
	l[2].Allow = api.Cond{From: 5, To: 5}
	if _, ok, e := analyse.Dead(l, 2); !ok || e != api.OK {
		t.Error("P24.3: an empty condition:", ok, e)
	}
	if addr, ok, e := analyse.Shadowed(l, 2); addr != "acme/a" || ok || e != api.OK {
		t.Error("P24.2: what is permitted does not matter:", addr, ok, e)
	}
	var tags []string
	for c := 'a'; c <= 'z'; c++ {
		for d := 'a'; d <= 'c'; d++ {
			tags = append(tags, string(c)+string(d)+strings.Repeat("t", 60))
		}
	}
	long := []api.Rule{rule("r", "acme", tags...)}
	if addr, ok, e := analyse.Shadowed(long, 0); addr != "" || !ok || e != api.OK {
		t.Error("P24.2: too many tags:", addr, ok, e)
	}
	if _, ok, e := analyse.Dead(long, 0); !ok || e != api.OK {
		t.Error("P24.3: too many tags:", ok, e)
	}
}

func TestUnruled(t *testing.T) {
	p := api.Policy{Customer: "acme", Party: 5, Rules: []api.Rule{rule("x", "acme", "t"), rule("a", "acme/a")}}
	if addr, ok, e := analyse.Unruled(p); !ok || policy.Choose(p.Rules, addr, "") != -1 || !address.Match("acme/**", addr) || e != api.OK {
		t.Error("P24.4:", addr, ok, e)
	}
	p.Rules = append(p.Rules, rule("y", "acme/*/**"))
	if addr, ok, e := analyse.Unruled(p); !ok || addr != "acme" || e != api.OK {
		t.Error("P24.4:", addr, ok, e)
	}
	p.Rules = append(p.Rules, rule("z", "acme"))
	if addr, ok, e := analyse.Unruled(p); ok || addr != "" || e != api.OK {
		t.Error("P24.4:", addr, ok, e)
	}
	p.Party = 0
	if addr, ok, e := analyse.Unruled(p); ok || addr != "" || e != api.ErrArg {
		t.Error("P24.4:", addr, ok, e)
	}
}

func TestErrors(t *testing.T) {
	good := []api.Rule{rule("a", "acme"), rule("b", "acme/b")}
	bad := slices.Clone(good)
	bad[1].Fresh = -1
	wrong := slices.Clone(good)
	wrong[1].Vary = []api.Vary{{}}
	for i, x := range []struct {
		l    []api.Rule
		i, k int
	}{
		{good, -1, 1}, {good, 2, 1}, {good, math.MinInt, 0}, {nil, 0, 1}, {bad, 0, 1}, {wrong, 0, 1}, {slices.Repeat(good, 33), 0, 1},
	} {
		a, ok1, e1 := analyse.Shadowed(x.l, x.i)
		b, ok2, e2 := analyse.Dead(x.l, x.i)
		c, ok3, e3 := analyse.Clash(x.l, x.i, x.k)
		d, h, g, ok4, e4 := analyse.Shared(x.l, x.i, x.k)
		if a+c+d != "" || b != (api.Ask{}) || ok1 || ok2 || ok3 || ok4 || h != nil || g != nil || e1 != 1 || e2 != 1 || e3 != 1 || e4 != 1 {
			t.Error("P24.2 to P24.6:", i, e1, e2, e3, e4)
		}
	}
	for _, x := range [][2]int{{0, 0}, {1, 0}, {0, 2}, {0, -1}, {1, math.MaxInt}} {
		c, ok, e := analyse.Clash(good, x[0], x[1])
		d, h, g, ok2, f := analyse.Shared(good, x[0], x[1])
		if c+d != "" || ok || ok2 || h != nil || g != nil || e != api.ErrArg || f != api.ErrArg {
			t.Error("P24.5, P24.6:", x, e, f)
		}
	}
	if addr, ok, e := analyse.Clash(good, 0, 1); addr != "" || ok || e != api.OK {
		t.Error("P24.5: no clash:", addr, ok, e)
	}
	if _, _, e := analyse.Shadowed(slices.Repeat(good, 32), 63); e != api.OK {
		t.Error("P24.2: 64 rules:", e)
	}
}

func TestShared(t *testing.T) {
	one, two := rule("a", "acme/**"), rule("b", "*/b")
	two.Vary = []api.Vary{{Header: "h", Values: []string{"x"}}}
	l := []api.Rule{one, two}
	addr, a, b, ok, e := analyse.Shared(l, 0, 1)
	if e != api.OK || !ok || addr != "acme/b" || !variant.Same(one.Vary, a, b) || variant.Same(two.Vary, a, b) {
		t.Error("P24.6:", addr, a, b, ok, e)
	}
	addr, a, b, ok, e = analyse.Shared([]api.Rule{two, one}, 0, 1)
	if e != api.OK || ok || addr != "" || a != nil || b != nil {
		t.Error("P24.6: nothing is shared:", addr, a, b, ok, e)
	}
	l[0].Pattern = "bolt"
	if addr, a, b, ok, e := analyse.Shared(l, 0, 1); e != api.OK || ok || addr != "" || a != nil || b != nil {
		t.Error("P24.6: no clash:", addr, a, b, ok, e)
	}
}

func TestRulesRandom(t *testing.T) {
	all := universe()
	lists := []string{"", "p", "p,q", "q"}
	r := rand.New(rand.NewSource(2))
	shadowed, dead := 0, 0
	for range 60 {
		var l []api.Rule
		for range 1 + r.Intn(4) {
			x := rule("r", randomPattern(r), [][]string{nil, {"p"}, {"q"}, {"p", "q"}}[r.Intn(4)]...)
			x.Allow.Pattern = []string{"", "", "a/**", "*/a", "*/*.b"}[r.Intn(5)]
			x.Allow.Sites = [][]int{nil, {3}}[r.Intn(2)]
			l = append(l, x)
		}
		for i := range l {
			own, _ := address.Tags(l[i].Tags)
			addr, never, e := analyse.Shadowed(l, i)
			ask, nobody, f := analyse.Dead(l, i)
			if e != api.OK || f != api.OK || never && (addr != "" || !nobody) || nobody && ask != (api.Ask{}) {
				t.Fatal("P24.2, P24.3, P24.7:", l, i, addr, ask)
			}
			if !never && policy.Choose(l, addr, own) != i {
				t.Fatal("P24.2, P24.8: the example:", l, i, addr)
			}
			if !nobody && (!policy.Permits(l[i], ask) || policy.Choose(l, ask.Addr, own) != i) {
				t.Fatal("P24.3: the example:", l, i, ask)
			}
			chosen, served := false, false
			for _, a := range all {
				if !address.Match(l[i].Pattern, a) {
					continue
				}
				for _, tags := range lists {
					if policy.Choose(l, a, tags) != i {
						continue
					}
					chosen = true
					x := api.Ask{Addr: a, Client: "c", Country: "de", Site: 3}
					served = served || tags == own && cond.Holds(l[i].Allow, x)
				}
			}
			if never != !chosen || nobody != !served {
				t.Fatal("P24.2, P24.3, P24.8:", l, i, never, nobody)
			}
			if never {
				shadowed++
			}
			if nobody && !never {
				dead++
			}
			for k := range l[:i] {
				covers, _, _ := address.Covers(l[k].Pattern, l[i].Pattern)
				among := !slices.ContainsFunc(l[k].Tags, func(x string) bool { return !slices.Contains(l[i].Tags, x) })
				if covers && among && !never {
					t.Fatal("P24.7:", l, k, i)
				}
				addr, ok, e := analyse.Clash(l, k, i)
				meet, _, _ := address.Meet(l[k].Pattern, l[i].Pattern)
				if e != api.OK || ok != meet || ok && (!address.Match(l[i].Pattern, addr) || !address.Match(l[k].Pattern, addr)) || !ok && addr != "" {
					t.Fatal("P24.5:", l, k, i, addr, ok)
				}
			}
		}
		p := api.Policy{Customer: "a", Party: 1}
		for i, x := range l {
			x.Name = string(rune('a' + i))
			if x.Pattern == "a" || strings.HasPrefix(x.Pattern, "a/") {
				p.Rules = append(p.Rules, x)
			}
		}
		addr, ok, e := analyse.Unruled(p)
		want := slices.ContainsFunc(all, func(a string) bool { return address.Match("a/**", a) && policy.Choose(p.Rules, a, "") < 0 })
		if e != api.OK || ok != want || ok && (policy.Choose(p.Rules, addr, "") != -1 || !address.Match("a/**", addr)) {
			t.Fatal("P24.4:", p.Rules, addr, ok, e)
		}
	}
	if shadowed == 0 || dead == 0 {
		t.Error("the test has met too little:", shadowed, dead)
	}
}
