package address_test

import (
	"fmt"
	"math/rand"
	"reflect"
	"slices"
	"strings"
	"testing"

	"weirgate/address"
	"weirgate/api"
)

func TestCanonical(t *testing.T) {
	w64 := strings.Repeat("w", 64)
	p32 := strings.Repeat("/a", 32)
	for _, x := range []struct{ s, want string }{
		{"Acme/News/./2026/../a.HTML/?b=2&a=1", "acme/news/a.html?a=1&b=2"},
		{"acme", "acme"}, {"acme/", "acme"}, {"acme?", "acme"}, {"acme/?", "acme"}, {"acme/.", "acme"}, {"acme/./", "acme"}, {"acme/a/..", "acme"}, {"acme/a/../", "acme"},
		{"acme/a/b/../../c", "acme/c"}, {"acme/./././a/.", "acme/a"}, {"acme/...", "acme/..."}, {"acme/.a/b.", "acme/.a/b."}, {"A-_9/A-_.9", "a-_9/a-_.9"},
		{"acme?b=1&a=2&B=3", "acme?a=2&b=3"}, {"acme?K=.V", "acme?k=.v"}, {w64 + "/" + w64 + "?" + w64 + "=" + w64, w64 + "/" + w64 + "?" + w64 + "=" + w64},
		{"acme" + p32, "acme" + p32}, {"acme" + p32 + "/b/../", "acme" + p32},
	} {
		s, e := address.Canonical(x.s)
		if s != x.want || e != api.OK {
			t.Errorf("P6.1: Canonical(%q) = %q, %d", x.s, s, e)
		}
		if again, e := address.Canonical(s); again != s || e != api.OK {
			t.Errorf("P6.6: Canonical of %q is %q", s, again)
		}
	}
}

func TestParseRefuses(t *testing.T) {
	w65 := strings.Repeat("w", 65)
	pairs := ""
	for i := range 17 {
		pairs += fmt.Sprintf("&k%d=v", i)
	}
	long := "acme?a=1" + strings.Repeat("&a=1", 1023)
	for _, x := range []struct {
		s string
		e api.Errno
	}{
		{"", 3}, {"/", 3}, {"?", 3}, {".", 3}, {"..", 3}, {"a.b", 3}, {"/acme", 3}, {"acme//a", 3}, {"acme//", 3}, {"acme/a//", 3}, {"acme/..", 3}, {"acme/./..", 3}, {"acme/a/../..", 3},
		{"acme/a b", 3}, {"acme/ä", 3}, {"acme/*", 3}, {"acme/" + w65, 3}, {w65, 3}, {"acme/" + w65 + "/..", 3}, {"acme/a%20", 3},
		{"acme?a", 3}, {"acme?a=", 3}, {"acme?=a", 3}, {"acme?a=1&", 3}, {"acme?&a=1", 3}, {"acme?a=1=2", 3}, {"acme?a.b=1", 3}, {"acme?a=.", 3}, {"acme?a=..", 3}, {"acme?a=1?b=2", 3}, {"acme?a=/", 3}, {"acme?a=1&&b=2", 3},
		{"acme?" + w65 + "=1", 3}, {"acme?a=" + w65, 3}, {"acme?a=" + w65 + "&a=1", 3},
		{"acme" + strings.Repeat("/a", 33), 2}, {"acme" + strings.Repeat("/a", 33) + "?", 2}, {"acme" + strings.Repeat("/a", 33) + "?a=", 3}, {"acme?" + pairs[1:], 2}, {"acme/..?" + pairs[1:], 3},
		{strings.Repeat("/", api.MaxText+1), 2}, {long + "&b=", 2},
	} {
		if a, e := address.Parse(x.s); e != x.e || !reflect.DeepEqual(a, api.Address{}) {
			t.Errorf("P6.1: Parse(%q): %d, want %d", x.s, e, x.e)
		}
		if s, e := address.Canonical(x.s); e != x.e || s != "" {
			t.Errorf("P6.1: Canonical(%q): %d, want %d", x.s, e, x.e)
		}
	}
	if s, e := address.Canonical(long[:4096]); s != "acme?a=1" || e != api.OK {
		t.Error("P6.1: of many equal keys one is left:", e)
	}
	if s, e := address.Canonical("acme?" + pairs[1:len(pairs)-6] + "&K0=w"); e != api.OK || !strings.Contains(s, "k0=w") {
		t.Error("P6.1: 16 different keys:", e)
	}
}

func TestText(t *testing.T) {
	a := api.Address{Customer: "acme", Path: []string{"a.b", "c"}, Query: []api.Pair{{Key: "k", Value: "v.w"}, {Key: "l", Value: "x"}}}
	s, e := address.Text(a)
	if s != "acme/a.b/c?k=v.w&l=x" || e != api.OK {
		t.Error("P6.1: Text:", s, e)
	}
	if b, e := address.Parse(s); !reflect.DeepEqual(a, b) || e != api.OK {
		t.Error("P6.6: Parse of Text:", b, e)
	}
	w := strings.Repeat("w", 64)
	many := func(n int) []string { return slices.Repeat([]string{"a"}, n) }
	var pairs []api.Pair
	for i := range 17 {
		pairs = append(pairs, api.Pair{Key: fmt.Sprintf("k%02d", i), Value: "v"})
	}
	longest := api.Address{Customer: w, Path: slices.Repeat([]string{w}, 32)}
	for i := range 16 {
		longest.Query = append(longest.Query, api.Pair{Key: fmt.Sprintf("k%02d", i), Value: w})
	}
	short := func(n int) api.Address { // n bytes altogether
		x := longest
		x.Query = slices.Clone(x.Query)
		n -= 64 + 32*65 + 16*(1+3+1+64)
		for i := range x.Query {
			more := min(61, n)
			x.Query[i].Key += strings.Repeat("k", more)
			n -= more
		}
		return x
	}
	if s, e := address.Text(short(api.MaxText)); len(s) != api.MaxText || e != api.OK {
		t.Error("P6.1: the longest text:", len(s), e)
	}
	for i, x := range []api.Address{
		{}, {Customer: "a.b"}, {Customer: "A"}, {Customer: w + "w"}, {Customer: "*"}, {Customer: "a", Path: []string{""}}, {Customer: "a", Path: []string{"."}}, {Customer: "a", Path: []string{".."}},
		{Customer: "a", Path: []string{"B"}}, {Customer: "a", Path: []string{"a/b"}}, {Customer: "a", Path: many(33)}, {Customer: "a", Query: pairs}, {Customer: "a", Query: []api.Pair{{Key: "b", Value: "1"}, {Key: "a", Value: "1"}}},
		{Customer: "a", Query: []api.Pair{{Key: "a", Value: "1"}, {Key: "a", Value: "2"}}}, {Customer: "a", Query: []api.Pair{{Key: "a.b", Value: "1"}}}, {Customer: "a", Query: []api.Pair{{Key: "a", Value: ""}}}, {Customer: "a", Query: []api.Pair{{Key: "", Value: "a"}}},
		{Customer: "a", Query: []api.Pair{{Key: "a", Value: "."}}}, short(api.MaxText + 1),
	} {
		if s, e := address.Text(x); s != "" || e != api.ErrArg {
			t.Error("P6.1: an address that is not valid:", i, s, e)
		}
	}
	if s, e := address.Text(api.Address{Customer: "a", Path: many(32), Query: pairs[:16]}); e != api.OK || len(s) != 1+64+16*6 {
		t.Error("P6.1: the greatest address:", s, e)
	}
}

func TestUnder(t *testing.T) {
	for _, x := range []struct {
		prefix, addr string
		want         bool
	}{
		{"acme/news", "acme/news/a", true}, {"acme/new", "acme/news", false}, {"acme", "acme", true}, {"acme", "acme?a=1", true}, {"acme/a", "acme/a?a=1", true}, {"acme/a", "acme/a/b?a=1", true},
		{"acme/a?a=1", "acme/a?a=1", false}, {"acme", "acme2/a", false}, {"acme/a", "acme", false}, {"Acme", "Acme/a", false}, {"acme", "acme/A", false}, {"acme/", "acme/a", false}, {"acme", "acme/", false},
		{"acme", "acme/a/", false}, {"", "acme", false}, {"", "", false}, {"acme", "acme?b=1&a=1", false}, {"acme/b", "acme/a/b", false}, {"acme/a/b", "acme/a/b/c/d", true},
	} {
		if address.Under(x.prefix, x.addr) != x.want {
			t.Errorf("P6.4: Under(%q, %q)", x.prefix, x.addr)
		}
	}
	addr := "acme/a/b.c/d"
	var prefixes []string
	for i, c := range addr + "/" {
		if c == '/' {
			prefixes = append(prefixes, addr[:i])
		}
	}
	for i, p := range prefixes {
		if !address.Under(p, addr) || !address.Under(p, addr+"?q=1") {
			t.Error("P6.8:", p)
		}
		for _, q := range prefixes[:i] {
			if !address.Under(q, p) || address.Under(p, q) {
				t.Error("P6.8:", q, p)
			}
		}
	}
}

func TestTags(t *testing.T) {
	w := strings.Repeat("t", 64)
	var many []string
	for i := range 64 {
		many = append(many, fmt.Sprintf("%s%02d", w[:61], i))
	}
	for i, x := range []struct {
		l    []string
		want string
		e    api.Errno
	}{
		{nil, "", 0}, {[]string{"b", "a", "b"}, "a,b", 0}, {[]string{"a-_9"}, "a-_9", 0}, {[]string{""}, "", 1}, {[]string{"a", "b.c"}, "", 1}, {[]string{"A"}, "", 1}, {[]string{"a,b"}, "", 1}, {[]string{w + "t"}, "", 1},
		{many, strings.Join(many, ","), 0}, {append(slices.Clone(many), "zz"), "", 2}, {append(slices.Clone(many), "A"), "", 1},
	} {
		old := slices.Clone(x.l)
		s, e := address.Tags(x.l)
		if s != x.want || e != x.e || !slices.Equal(old, x.l) {
			t.Error("P6.5: Tags:", i, s, e)
		}
	}
	if len(strings.Join(many, ",")) > api.MaxText || len(strings.Join(many, ","))+3 <= api.MaxText {
		t.Error("the test of long tag lists is wrong")
	}
	for i, x := range []struct {
		s    string
		want []string
		e    api.Errno
	}{
		{"", nil, 0}, {"a", []string{"a"}, 0}, {"a,b,c-d", []string{"a", "b", "c-d"}, 0}, {"b,a", nil, 3}, {"a,a", nil, 3}, {",", nil, 3}, {"a,", nil, 3}, {",a", nil, 3}, {"a, b", nil, 3}, {"A", nil, 3}, {"a.b", nil, 3},
		{strings.Join(many, ",") + ",zz", nil, 3},
	} {
		l, e := address.Split(x.s)
		if !slices.Equal(l, x.want) || e != x.e {
			t.Error("P6.5: Split:", i, l, e)
		}
	}
	for i, x := range []struct {
		s, tag string
		want   bool
	}{{"a,b", "a", true}, {"a,b", "b", true}, {"a,b", "c", false}, {"a,bc", "b", false}, {"", "", false}, {"b,a", "a", false}, {"a", "", false}, {"a,b", "a,b", false}} {
		if address.HasTag(x.s, x.tag) != x.want {
			t.Error("P6.5: HasTag:", i)
		}
	}
}

func TestPatterns(t *testing.T) {
	w32, w64 := strings.Repeat("w", 32), strings.Repeat("w", 64)
	for _, p := range []string{"acme", "*", "acme/*", "acme/**", "*/**", "acme/*.css", "acme/*.tar.gz", "acme/*..a", "acme/a.b/*/**", "acme" + strings.Repeat("/a", 32), "acme" + strings.Repeat("/*", 31) + "/**", "acme/*." + w32, w64 + "/" + w64} {
		if !address.Valid(p) {
			t.Errorf("P6.2: a pattern: %q", p)
		}
	}
	for _, p := range []string{"", "/", "a.b", "Acme", "acme/", "acme/a/", "acme//a", "**", "acme/**/a", "acme/**/**", "acme/***", "acme/a*", "acme/*a", "acme/*.", "acme/*..", "acme/*...", "acme/*.*", "acme/.", "acme/..", "acme?a=1", "acme/A",
		"acme" + strings.Repeat("/a", 33), "acme" + strings.Repeat("/*", 32) + "/**", "acme/*." + w32 + "w", w64 + "w", "acme/w" + w64, "acme/**/"} {
		if address.Valid(p) || address.Match(p, "acme/a") {
			t.Errorf("P6.2: not a pattern: %q", p)
		}
		for _, x := range [][2]string{{p, "acme"}, {"acme", p}} {
			a, s, e := address.Covers(x[0], x[1])
			b, u, f := address.Meet(x[0], x[1])
			v, c, g := address.Both(x[0], x[1])
			if a || b || c || s != "" || u != "" || v != "" || e != api.ErrArg || f != api.ErrArg || g != api.ErrArg {
				t.Errorf("P6.3: not a pattern: %q", p)
			}
		}
	}
}

func TestMatch(t *testing.T) {
	for _, x := range []struct {
		p, addr string
		want    bool
	}{
		{"acme/news/**", "acme/news", true}, {"acme/*/*.html", "acme/news/a.html", true}, {"acme/*", "acme/a/b", false}, {"acme/*", "acme", false}, {"acme", "acme", true}, {"acme", "bolt", false},
		{"*", "bolt", true}, {"*/**", "bolt/a/b", true}, {"acme/a", "acme/a?x=1", true}, {"acme/a", "acme/b?a=a", false}, {"acme/*.css", "acme/a.css", true}, {"acme/*.css", "acme/.css", false}, {"acme/*.css", "acme/css", false},
		{"acme/*.css", "acme/acss", false}, {"acme/*.gz", "acme/a.tar.gz", true}, {"acme/*.css", "acme/a.css/b", false}, {"acme/a", "acme/a/", false}, {"acme/a", "Acme/a", false}, {"acme/**", "acme/A", false}, {"acme/**", "", false},
		{"acme/**", "acme" + strings.Repeat("/a", 32), true}, {"acme/**", "acme" + strings.Repeat("/a", 33), false}, {"acme/**", "acme?b=1&a=2", false},
	} {
		if address.Match(x.p, x.addr) != x.want {
			t.Errorf("P6.2: Match(%q, %q)", x.p, x.addr)
		}
	}
}

var words = []string{"a", "b", "c", "a.b", "c.b", "x.a.b", "c.a.b", ".b", ".a.b", "q.x.a.b", "b.a"}

// universe has all addresses of few words: enough to tell apart the patterns of randomPattern.
func universe() []string {
	paths := []string{""}
	var l []string
	for range 4 {
		var next []string
		for _, p := range paths {
			for _, c := range []string{"a", "b", "k"} {
				l = append(l, c+p)
			}
			for _, w := range words {
				next = append(next, p+"/"+w)
			}
		}
		paths = next
	}
	return l
}

func randomPattern(r *rand.Rand) string {
	p := []string{"a", "b", "*", "a"}[r.Intn(4)]
	for range r.Intn(3) {
		p += "/" + []string{"a", "b", "a.b", "x.a.b", ".a.b", "*", "*", "*.b", "*.a.b", "*.a"}[r.Intn(10)]
	}
	if r.Intn(3) == 0 {
		p += "/**"
	}
	return p
}

func plainAddress(t *testing.T, s string) {
	if c, e := address.Canonical(s); e != api.OK || c != s || strings.Contains(s, "?") {
		t.Fatalf("P6.3: the example %q is not canonical", s)
	}
}

func TestCoversMeetBoth(t *testing.T) {
	all := universe()
	matched := map[string][]bool{}
	table := func(p string) []bool {
		l, ok := matched[p]
		if !ok {
			for _, a := range all {
				l = append(l, address.Match(p, a))
			}
			matched[p] = l
		}
		return l
	}
	r := rand.New(rand.NewSource(1))
	for range 1500 {
		p, q := randomPattern(r), randomPattern(r)
		x, y := table(p), table(q)
		covers, meets := true, false
		for i := range all {
			covers = covers && (x[i] || !y[i])
			meets = meets || x[i] && y[i]
		}
		ok, s, e := address.Covers(p, q)
		if ok != covers || e != api.OK || ok && s != "" {
			t.Fatalf("P6.3, P6.7: Covers(%q, %q): %v %q", p, q, ok, s)
		}
		if !ok {
			plainAddress(t, s)
			if address.Match(p, s) || !address.Match(q, s) {
				t.Fatalf("P6.3: Covers(%q, %q): the example %q", p, q, s)
			}
		}
		ok, s, e = address.Meet(p, q)
		if ok != meets || e != api.OK || !ok && s != "" {
			t.Fatalf("P6.3: Meet(%q, %q): %v %q", p, q, ok, s)
		}
		if ok {
			plainAddress(t, s)
			if !address.Match(p, s) || !address.Match(q, s) {
				t.Fatalf("P6.3: Meet(%q, %q): the example %q", p, q, s)
			}
		}
		both, ok, e := address.Both(p, q)
		if ok != meets || e != api.OK || ok && !address.Valid(both) || !ok && both != "" {
			t.Fatalf("P6.3: Both(%q, %q): %v %q", p, q, ok, both)
		}
		if ok {
			for i, m := range table(both) {
				if m != (x[i] && y[i]) {
					t.Fatalf("P6.3: Both(%q, %q) is %q: %s", p, q, both, all[i])
				}
			}
			if other, _, _ := address.Both(q, p); other != both {
				t.Fatalf("P6.3: Both(%q, %q) is %q, the other way round %q", p, q, both, other)
			}
		}
		if covers && both != q {
			t.Fatalf("P6.7: %q covers %q, Both is %q", p, q, both)
		}
		if self, _, _ := address.Covers(p, p); !self {
			t.Fatalf("P6.7: %q does not cover itself", p)
		}
	}
}

func TestExamples(t *testing.T) {
	yes := func(ok bool, s string, e api.Errno) string { return fmt.Sprint(ok, " ", s, " ", e) }
	if s := yes(address.Covers("acme/**", "acme/*.css")); s != "true  0" {
		t.Error("P6.3:", s)
	}
	if ok, s, _ := address.Covers("acme/*.css", "acme/*"); ok || !strings.HasPrefix(s, "acme/") {
		t.Error("P6.3:", s)
	}
	if s := yes(address.Meet("acme/*/b", "acme/a/**")); s != "true acme/a/b 0" {
		t.Error("P6.3:", s)
	}
	if s := yes(address.Meet("acme/*.css", "acme/*.js")); s != "false  0" {
		t.Error("P6.3:", s)
	}
	for _, x := range []struct{ p, q, both string }{
		{"*", "acme", "acme"}, {"*/a/**", "acme/**", "acme/a/**"}, {"*/**", "*/**", "*/**"}, {"*/*.gz/**", "acme/*.tar.gz/b", "acme/*.tar.gz/b"}, {"acme/**", "acme/*/**", "acme/*/**"}, {"acme/*/**", "acme/*", "acme/*"},
	} {
		if b, ok, e := address.Both(x.p, x.q); b != x.both || !ok || e != api.OK {
			t.Error("P6.3: Both:", x, b)
		}
	}
}

// The number of parts is bounded, which matters for the longest patterns.
func TestLongPatterns(t *testing.T) {
	fixed := func(n int) string { return "acme" + strings.Repeat("/*", n) }
	for i, x := range []struct {
		p, q          string
		covers, meets bool
	}{
		{fixed(31) + "/**", fixed(32), true, true}, {fixed(32), fixed(31) + "/**", false, true}, {fixed(31), fixed(31) + "/**", false, true},
		{fixed(31) + "/**", fixed(31), true, true}, {fixed(31) + "/**", fixed(30) + "/**", false, true}, {fixed(30), fixed(31) + "/**", false, false}, {fixed(30) + "/**", fixed(31) + "/**", true, true},
	} {
		ok, s, e := address.Covers(x.p, x.q)
		if ok != x.covers || e != api.OK || !ok && (address.Match(x.p, s) || !address.Match(x.q, s)) {
			t.Error("P6.3: Covers:", i, s)
		}
		ok, s, e = address.Meet(x.p, x.q)
		if ok != x.meets || e != api.OK || ok && (!address.Match(x.p, s) || !address.Match(x.q, s)) {
			t.Error("P6.3: Meet:", i, s)
		}
	}
}
