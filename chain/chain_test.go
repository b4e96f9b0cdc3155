package chain_test

import (
	"fmt"
	"math/rand"
	"reflect"
	"slices"
	"strconv"
	"strings"
	"testing"

	"weirgate/api"
	"weirgate/chain"
	"weirgate/cond"
	"weirgate/hash"
	"weirgate/seal"
)

func key() api.Key { return api.Key{Party: 9, Serial: 1, Secret: "k", From: 0, To: api.MaxTime} }

func condA() api.Cond { return api.Cond{From: 0, To: 100, Pattern: "acme/**"} }
func condB() api.Cond { return api.Cond{From: 10, To: 50} }

func ask(addr string, at int) api.Ask {
	return api.Ask{Addr: addr, Client: "bob", Country: "de", Site: 3, At: api.Period{Lo: at, Hi: at}}
}

func mint(t *testing.T, c api.Cond) api.Token {
	t.Helper()
	x, e := chain.Mint(key(), "id", c)
	if e != api.OK {
		t.Fatal("Mint:", e)
	}
	return x
}

func narrow(t *testing.T, x api.Token, c api.Cond) api.Token {
	t.Helper()
	y, e := chain.Narrow(x, c)
	if e != api.OK {
		t.Fatal("Narrow:", e)
	}
	return y
}

func text(c api.Cond) string {
	s, _ := cond.Text(c)
	return s
}

func TestValid(t *testing.T) {
	good := mint(t, condA())
	if !chain.Valid(good) {
		t.Error("P25.1: a valid token")
	}
	for i, change := range []func(x *api.Token){
		func(x *api.Token) { x.Customer = 0 }, func(x *api.Token) { x.Customer = api.MaxParty + 1 }, func(x *api.Token) { x.Serial = 0 }, func(x *api.Token) { x.Serial = -1 }, func(x *api.Token) { x.Serial = api.MaxParty + 1 }, func(x *api.Token) { x.ID = "" }, func(x *api.Token) { x.ID = "a.b" }, func(x *api.Token) { x.ID = "A" }, func(x *api.Token) { x.ID = strings.Repeat("a", 65) },
		func(x *api.Token) { x.Conds = nil }, func(x *api.Token) { x.Conds = slices.Repeat(x.Conds, 17) }, func(x *api.Token) { x.Conds[0].From = -1 },
	} {
		x := mint(t, condA())
		change(&x)
		if chain.Valid(x) {
			t.Error("P25.1: a token that is not valid:", i)
		}
		if s, e := chain.Text(x); s != "" || e != api.ErrForm {
			t.Error("P25.5: a token that is not valid:", i, e)
		}
	}
	good.Customer, good.Serial, good.ID, good.Conds = api.MaxParty, api.MaxParty, strings.Repeat("a", 64), slices.Repeat(good.Conds, 16)
	if !chain.Valid(good) {
		t.Error("P25.1: the greatest token")
	}
}

func TestMint(t *testing.T) {
	a, b := condA(), condB()
	x := mint(t, a)
	want := api.Token{Customer: 9, Serial: 1, ID: "id", Conds: []api.Cond{a}, Seal: seal.Make(key(), api.TagToken, "id", text(a))}
	if !reflect.DeepEqual(x, want) {
		t.Error("P25.1: Mint:", x)
	}
	y := narrow(t, x, b)
	want.Conds = []api.Cond{a, b}
	want.Seal = api.Seal(hash.Of(api.TagToken, string(want.Seal[:]), text(b)))
	if !reflect.DeepEqual(y, want) || len(x.Conds) != 1 {
		t.Error("P25.1: Narrow:", y)
	}
	for i, f := range []func() (api.Token, api.Errno){
		func() (api.Token, api.Errno) { return chain.Mint(api.Key{}, "id", a) },
		func() (api.Token, api.Errno) { return chain.Mint(key(), "", a) },
		func() (api.Token, api.Errno) { return chain.Mint(key(), "a.b", a) },
		func() (api.Token, api.Errno) { return chain.Mint(key(), "id", api.Cond{From: -1}) },
		func() (api.Token, api.Errno) { return chain.Narrow(x, api.Cond{From: -1}) },
	} {
		if x, e := f(); e != api.ErrArg || !reflect.DeepEqual(x, api.Token{}) {
			t.Error("P25.1: ErrArg:", i, e)
		}
	}
	for range api.MaxConds - 2 {
		y = narrow(t, y, a)
	}
	if len(y.Conds) != api.MaxConds || chain.Check([]api.Key{key()}, y, ask("acme/x", 20)) != api.OK {
		t.Error("P25.1: 16 conditions")
	}
	if z, e := chain.Narrow(y, a); e != api.ErrLimit || !reflect.DeepEqual(z, api.Token{}) {
		t.Error("P25.1: 17 conditions:", e)
	}
	if _, e := chain.Narrow(y, api.Cond{From: -1}); e != api.ErrArg {
		t.Error("P25.1: ErrArg comes first:", e)
	}
	c := api.Cond{To: 9, Sites: []int{1, 2}, Clients: []string{"a"}, Countries: []string{"de"}}
	x = mint(t, c)
	y = narrow(t, x, c)
	m, _ := chain.Meaning(x)
	c.Sites[0], x.Conds[0].Clients[0], m.Countries[0] = 9, "z", "zz"
	if y.Conds[0].Clients[0] != "a" || y.Conds[1].Sites[0] != 1 || x.Conds[0].Sites[0] != 1 || x.Conds[0].Countries[0] != "de" {
		t.Error("P25.1: memory is shared")
	}
}

func TestExamples(t *testing.T) {
	ring := []api.Key{key()}
	x := mint(t, condA())
	y := narrow(t, x, condB())
	for i, c := range []struct {
		x  api.Token
		a  api.Ask
		e  api.Errno
		in string
	}{
		{x, ask("acme/x", 5), 0, "P25.4"}, {y, ask("acme/x", 5), 250, "P25.4"}, {y, ask("acme/x", 20), 0, "P25.4"}, {x, ask("bolt/x", 5), 250, "P25.4"}, {y, ask("bolt/x", 5), 250, "P25.4"}, {x, ask("Acme", 5), 250, "P25.4"}, {x, ask("acme/x", 100), 250, "P25.4"}, {x, ask("acme/x", -1), 9, "P25.4"},
		{api.Token{Customer: 9, Serial: 1, ID: "id", Conds: x.Conds, Seal: y.Seal}, ask("acme/x", 5), 8, "P25.7"},
	} {
		if e := chain.Check(ring, c.x, c.a); e != c.e {
			t.Error(c.in, i, e)
		}
	}
	if m, e := chain.Meaning(y); e != api.OK || !reflect.DeepEqual(m, api.Cond{From: 10, To: 50, Pattern: "acme/**"}) {
		t.Error("P25.2: Meaning:", m, e)
	}
	if chain.Identity(x) != hash.Of(25, "9", "1", "id") || chain.Identity(y) != chain.Identity(x) {
		t.Error("P25.2: Identity")
	}
	uses := func(l ...int) int {
		c := condA()
		c.Uses = l[0]
		z := mint(t, c)
		for _, n := range l[1:] {
			c.Uses = n
			z = narrow(t, z, c)
		}
		return chain.Uses(z)
	}
	if uses(0) != 0 || uses(5) != 5 || uses(0, 5) != 5 || uses(5, 3, 0, 4) != 3 {
		t.Error("P25.2: Uses")
	}
}

func TestGenuine(t *testing.T) {
	old := api.Key{Party: 9, Serial: 1, Secret: "k", From: 10, To: 60}
	ring := []api.Key{{Party: 8, Serial: 1, Secret: "x", From: 0, To: 99}, old, {Party: 9, Serial: 2, Secret: "other", From: 50, To: 99}}
	x := narrow(t, mint(t, condA()), condB())
	at := func(lo, hi int) api.Period { return api.Period{Lo: lo, Hi: hi} }
	for i, c := range []struct {
		change func(x *api.Token)
		at     api.Period
		e      api.Errno
	}{
		{func(x *api.Token) {}, at(10, 59), 0}, {func(x *api.Token) {}, at(9, 59), 9}, {func(x *api.Token) {}, at(10, 60), 9}, {func(x *api.Token) {}, at(20, 10), 9}, {func(x *api.Token) { x.Serial = 3 }, at(20, 10), 5}, {func(x *api.Token) { x.Customer = 7 }, at(20, 20), 5}, {func(x *api.Token) { x.Serial = 2 }, at(50, 55), 8}, {func(x *api.Token) { x.Serial = 2 }, at(20, 20), 9},
		{func(x *api.Token) { x.Customer = 8 }, at(20, 20), 8}, {func(x *api.Token) { x.Seal[5] ^= 1 }, at(20, 20), 8}, {func(x *api.Token) { x.Seal[5] ^= 1 }, at(5, 20), 9}, {func(x *api.Token) { x.ID = "other" }, at(20, 20), 8}, {func(x *api.Token) { x.Conds = x.Conds[:1] }, at(20, 20), 8}, {func(x *api.Token) { x.Conds = x.Conds[1:] }, at(20, 20), 8},
		{func(x *api.Token) { x.Conds[0], x.Conds[1] = x.Conds[1], x.Conds[0] }, at(20, 20), 8}, {func(x *api.Token) { x.Conds[1].To = 51 }, at(20, 20), 8}, {func(x *api.Token) { x.Conds[0].Uses = 1 }, at(20, 20), 8}, {func(x *api.Token) { x.Conds = append(x.Conds, x.Conds[1]) }, at(20, 20), 8},
	} {
		y := x
		y.Conds = slices.Clone(x.Conds)
		c.change(&y)
		if e := chain.Genuine(ring, y, c.at); e != c.e {
			t.Error("P25.3, P25.7:", i, e)
		}
	}
}

func random(r *rand.Rand) api.Cond {
	c := api.Cond{From: r.Intn(30), To: 20 + r.Intn(40), Uses: r.Intn(4)}
	c.Pattern = []string{"", "acme/**", "acme/*", "acme/*.b", "*/a"}[r.Intn(5)]
	c.Clients = [][]string{nil, {"a", "bob"}, {"bob"}}[r.Intn(3)]
	c.Countries = [][]string{nil, {"de"}, {"de", "fr"}}[r.Intn(3)]
	c.Sites = [][]int{nil, {3}, {2, 3, 4}}[r.Intn(3)]
	return c
}

func TestRandom(t *testing.T) {
	r := rand.New(rand.NewSource(1))
	ring := []api.Key{key()}
	accepted, denied := 0, 0
	for range 300 {
		x := mint(t, random(r))
		for range r.Intn(5) {
			c := random(r)
			y := narrow(t, x, c)
			mx, _ := chain.Meaning(x)
			my, e := chain.Meaning(y)
			within, _ := cond.Within(my, mx)
			if e != api.OK || !within || chain.Identity(x) != chain.Identity(y) || chain.Uses(y) != my.Uses {
				t.Fatal("P25.8:", x, c, my)
			}
			for range 10 {
				a := ask([]string{"acme/a", "acme/a.b", "bolt/a", "acme/b/c"}[r.Intn(4)], r.Intn(60))
				a.Client = []string{"a", "bob", "c"}[r.Intn(3)]
				a.At.Hi += r.Intn(5)
				ex, ey := chain.Check(ring, x, a), chain.Check(ring, y, a)
				if ey == api.OK && ex != api.OK {
					t.Fatal("P25.6: narrowing has widened:", x, c, a)
				}
				if (ey == api.OK) != (chain.Genuine(ring, y, a.At) == api.OK && cond.Holds(my, a)) || ey != api.OK && ey != api.ErrDenied {
					t.Fatal("P25.6: the meaning:", y, a, ey)
				}
				if ey == api.OK {
					accepted++
				} else {
					denied++
				}
			}
			x = y
		}
		s, e := chain.Text(x)
		back, f := chain.Parse(s)
		if e != api.OK || f != api.OK || !reflect.DeepEqual(back, x) {
			t.Fatal("P25.9:", x, s, back)
		}
	}
	if accepted < 50 || denied < 50 {
		t.Error("the test is one-sided:", accepted, denied)
	}
}

func TestText(t *testing.T) {
	x := narrow(t, mint(t, condA()), condB())
	s, e := chain.Text(x)
	if want := "9;1;id;0 100 acme/** ~ ~ ~ 0;10 50 ~ ~ ~ ~ 0;" + fmt.Sprintf("%x", x.Seal[:]); s != want || e != api.OK {
		t.Error("P25.5: Text:", s, e)
	}
	hex := s[len(s)-32:]
	for i, bad := range []string{
		"", ";", s + ";", ";" + s, s + " ", s[:len(s)-1], s + "0", strings.Replace(s, hex, strings.ToUpper(hex), 1), strings.Replace(s, hex, "g"+hex[1:], 1), strings.Replace(s, "9;", "09;", 1), strings.Replace(s, "9;", "+9;", 1), strings.Replace(s, "9;", "0;", 1), strings.Replace(s, "9;", "x;", 1), strings.Replace(s, "id", "ID", 1), strings.Replace(s, "id", "", 1),
		strings.Replace(s, " 0;", " 00;", 1), strings.Replace(s, "~", "X", 1), "9;1;id;" + hex, "9;1;" + hex, strings.Replace(s, ";10", ";;10", 1), strings.Replace(s, "0 100", "0  100", 1), "9;1;id;" + strings.Repeat("0 100 acme/** ~ ~ ~ 0;", 17) + hex, strings.Repeat("a", 1<<17), strconv.Itoa(api.MaxParty+1) + s[1:],
	} {
		if y, e := chain.Parse(bad); e != api.ErrForm || !reflect.DeepEqual(y, api.Token{}) {
			t.Errorf("P25.5: Parse: %d %.60q: %d", i, bad, e)
		}
	}
	if y, e := chain.Parse(strings.Repeat("a", 1<<17+1)); e != api.ErrLimit || !reflect.DeepEqual(y, api.Token{}) {
		t.Error("P25.5: too long:", e)
	}
	var clients, countries []string
	var sites []int
	for i := range 64 {
		sites = append(sites, i)
		if i < 32 {
			clients = append(clients, fmt.Sprintf("%s%02d", strings.Repeat("c", 62), i))
			countries = append(countries, string([]byte{'a', 'a' + byte(i%26)}))
		}
	}
	big := api.Cond{From: api.MaxTime, To: api.MaxTime + 1, Pattern: "acme" + strings.Repeat("/"+strings.Repeat("p", 64), 32), Clients: clients, Countries: countries[:26], Sites: sites, Uses: api.MaxUses}
	y := mint(t, big)
	for range 15 {
		y = narrow(t, y, big)
	}
	s, e = chain.Text(y)
	if back, f := chain.Parse(s); e != api.OK || f != api.OK || !reflect.DeepEqual(back, y) {
		t.Error("P25.9: the greatest token:", len(s), e, f)
	}
}
