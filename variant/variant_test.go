package variant_test

import (
	"math/rand"
	"reflect"
	"slices"
	"strings"
	"testing"

	"weirgate/api"
	"weirgate/variant"
)

func vary(header, def string, values ...string) api.Vary {
	return api.Vary{Header: header, Values: values, Default: def}
}

func headers(l ...string) []api.Header {
	var h []api.Header
	for i := 0; i < len(l); i += 2 {
		h = append(h, api.Header{Name: l[i], Value: l[i+1]})
	}
	return h
}

func example() []api.Vary {
	return []api.Vary{vary("accept-language", "en", "de", "en"), vary("x-app", "", "a=b")}
}

func TestCheck(t *testing.T) {
	w64 := strings.Repeat("w", 64)
	many := func(n int) []string {
		var l []string
		for i := range n {
			l = append(l, string(rune('a'+i)))
		}
		return l
	}
	bad := vary("", "")
	for i, x := range []struct {
		l []api.Vary
		e api.Errno
	}{
		{nil, 0}, {example(), 0}, {[]api.Vary{vary(w64, w64, "!", w64, "~")}, 0}, {[]api.Vary{vary("a-9", "")}, 0}, {[]api.Vary{vary("h", "", many(16)...)}, 0}, {[]api.Vary{bad, vary("h", "", many(17)...)}, 2}, {slices.Repeat([]api.Vary{bad}, 9), 2},
		{[]api.Vary{bad}, 1}, {[]api.Vary{vary("H", "")}, 1}, {[]api.Vary{vary("a_b", "")}, 1}, {[]api.Vary{vary(w64+"w", "")}, 1}, {[]api.Vary{vary("h", ""), vary("h", "x")}, 6}, {[]api.Vary{vary("h", "x"), vary("h", "")}, 1}, {[]api.Vary{vary("h", ""), vary("i", ""), vary("h", ""), bad}, 6},
		{[]api.Vary{vary("h", "", "b", "a")}, 1}, {[]api.Vary{vary("h", "", "a", "a")}, 1}, {[]api.Vary{vary("h", "", "")}, 1}, {[]api.Vary{vary("h", "", "a b")}, 1}, {[]api.Vary{vary("h", "", "é")}, 1}, {[]api.Vary{vary("h", "", "\x7f")}, 1}, {[]api.Vary{vary("h", "", w64+"w")}, 1}, {[]api.Vary{vary("h", "b", "a")}, 1}, {[]api.Vary{vary("h", "a")}, 1},
	} {
		if e := variant.Check(x.l); e != x.e {
			t.Error("P23.1:", i, e)
		}
	}
}

func TestExamples(t *testing.T) {
	l := example()
	for i, x := range []struct {
		h    []api.Header
		want string
	}{
		{nil, "accept-language=en&x-app="}, {headers("accept-language", "de", "x-app", "a=b"), "accept-language=de&x-app=a%3db"}, {headers("accept-language", "fr", "accept-language", "de"), "accept-language=en&x-app="}, {headers("accept-language", "", "x-app", "x"), "accept-language=en&x-app="},
		{headers("x-app", "a=b", "Accept-Language", "de"), "accept-language=en&x-app=a%3db"}, {headers("accept-language", "de", "accept-language", "en"), "accept-language=de&x-app="},
	} {
		if k := variant.Key(l, x.h); k != x.want {
			t.Error("P23.2, P23.3:", i, k)
		}
	}
	if k := variant.Key(nil, headers("a", "b")); k != "" {
		t.Error("P23.3: no ways to vary:", k)
	}
	if k := variant.Key([]api.Vary{vary("h", "", "%&=%")}, headers("h", "%&=%")); k != "h=%25%26%3d%25" {
		t.Error("P23.3: escapes:", k)
	}
	if v := variant.Value(l[0], headers("accept-language", "fr")); v != "en" {
		t.Error("P23.2:", v)
	}
	keys, e := variant.All(l)
	if e != api.OK || !slices.Equal(keys, []string{"accept-language=de&x-app=", "accept-language=de&x-app=a%3db", "accept-language=en&x-app=", "accept-language=en&x-app=a%3db"}) {
		t.Error("P23.5:", keys, e)
	}
	if keys, e := variant.All(nil); e != api.OK || !slices.Equal(keys, []string{""}) {
		t.Error("P23.5: no ways to vary:", keys, e)
	}
	if _, _, ok := variant.Split(l, l); ok {
		t.Error("P23.7: the same ways")
	}
	if x, y, ok := variant.Split(l[:1], l); !ok || !slices.Equal(x, headers("x-app", "a=b")) || len(y) != 0 {
		t.Error("P23.7:", x, y, ok)
	}
	if x, y, ok := variant.Split([]api.Vary{vary("h", "b", "b")}, []api.Vary{vary("h", "", "b", "c")}); !ok || !slices.Equal(x, headers("h", "b")) || !slices.Equal(y, headers("h", "c")) {
		t.Error("P23.7: other values:", x, y, ok)
	}
	if x, y, ok := variant.Split([]api.Vary{vary("h", "b", "a", "b")}, []api.Vary{vary("h", "", "b")}); !ok || !slices.Equal(x, headers("h", "b")) || len(y) != 0 {
		t.Error("P23.7: other defaults:", x, y, ok)
	}
	if x, y, ok := variant.Split([]api.Vary{vary("h", "", "a", "b")}, []api.Vary{vary("g", ""), vary("h", "", "b")}); ok || x != nil || y != nil {
		t.Error("P23.7: less is told apart:", x, y, ok)
	}
}

func TestParse(t *testing.T) {
	l := example()
	for i, x := range []struct {
		l    []api.Vary
		key  string
		want []string
		e    api.Errno
	}{
		{l, "accept-language=en&x-app=", []string{"en", ""}, 0}, {l, "accept-language=de&x-app=a%3db", []string{"de", "a=b"}, 0}, {nil, "", nil, 0}, {nil, "a", nil, 3}, {l, "accept-language=fr&x-app=", nil, 3}, {l, "accept-language=&x-app=", nil, 3}, {l, "accept-language=en&x-app=a=b", nil, 3},
		{l, "accept-language=en", nil, 3}, {l, "accept-language=en&", nil, 3}, {l, "accept-language=en&x-app=&", nil, 3}, {l, "x-app=&accept-language=en", nil, 3}, {l, "", nil, 3}, {l, "accept-language=en&x-app=a%3Db", nil, 3}, {l, "accept-languagE=en&x-app=", nil, 3}, {l, "accept-language=en&x-app=&x-app=", nil, 3},
		{[]api.Vary{vary("h", "")}, "h=", []string{""}, 0}, {[]api.Vary{vary("h", "")}, "h", nil, 3}, {nil, "&", nil, 3},
	} {
		if v, e := variant.Parse(x.l, x.key); !slices.Equal(v, x.want) || e != x.e {
			t.Error("P23.4:", i, v, e)
		}
	}
}

func TestLimit(t *testing.T) {
	var values []string
	for i := range 9 {
		values = append(values, string(rune('a'+i)))
	}
	ten := []api.Vary{vary("a", "", values...), vary("b", "", values...), vary("c", "", values...)}
	if l, e := variant.All(ten); e != api.OK || len(l) != 1000 {
		t.Error("P23.5: 1000 keys:", len(l), e)
	}
	if l, e := variant.All(append(slices.Clone(ten), vary("d", "x", "x", "y"))); e != api.ErrLimit || l != nil {
		t.Error("P23.5: 2000 keys:", len(l), e)
	}
	if l, e := variant.All(append(slices.Clone(ten), vary("d", "x", "x"))); e != api.OK || len(l) != 1000 {
		t.Error("P23.5: 1000 keys:", len(l), e)
	}
}

func random(r *rand.Rand) []api.Vary {
	var l []api.Vary
	for _, h := range []string{"h", "g", "f"} {
		if r.Intn(3) == 0 {
			continue
		}
		v := api.Vary{Header: h}
		for _, x := range []string{"%", "&", "=", "a"} {
			if r.Intn(2) == 0 {
				v.Values = append(v.Values, x)
			}
		}
		if len(v.Values) > 0 && r.Intn(2) == 0 {
			v.Default = v.Values[r.Intn(len(v.Values))]
		}
		l = append(l, v)
	}
	r.Shuffle(len(l), func(i, k int) { l[i], l[k] = l[k], l[i] })
	return l
}

// universe has requests that tell apart all that random ways do.
func universe() [][]api.Header {
	l := [][]api.Header{nil}
	for _, h := range []string{"h", "g", "f"} {
		for _, x := range slices.Clone(l) {
			for _, v := range []string{"%", "&", "=", "a", "other"} {
				l = append(l, append(slices.Clone(x), api.Header{Name: h, Value: v}))
			}
		}
	}
	return l
}

// slowSplit tries the pairs of samples in their order.
func slowSplit(a, b []api.Vary) (x, y []api.Header, ok bool) {
	for _, v := range b {
		values := map[string]bool{}
		for _, w := range append(slices.Clone(a), v) {
			for _, value := range w.Values {
				values[value] = values[value] || w.Header == v.Header
			}
		}
		var samples [][]api.Header
		for _, value := range []string{"%", "&", "=", "a"} {
			if values[value] {
				samples = append(samples, headers(v.Header, value))
			}
		}
		samples = append(samples, nil)
		for i := range samples {
			for k := i + 1; k < len(samples); k++ {
				x, y := samples[i], samples[k]
				if variant.Key(a, x) == variant.Key(a, y) && variant.Key(b, x) != variant.Key(b, y) {
					return x, y, true
				}
			}
		}
	}
	return nil, nil, false
}

func TestRandom(t *testing.T) {
	r := rand.New(rand.NewSource(1))
	all := universe()
	for range 400 {
		a, b := random(r), random(r)
		old := slices.Clone(a)
		keys, e := variant.All(a)
		if e != api.OK || len(keys) != len(slices.Compact(slices.Sorted(slices.Values(keys)))) {
			t.Fatal("P23.5: All:", a, keys)
		}
		want := 1
		for _, v := range a {
			if v.Default == "" {
				want *= len(v.Values) + 1
			} else {
				want *= len(v.Values)
			}
		}
		if len(keys) != want {
			t.Fatal("P23.11:", a, keys)
		}
		met := map[string]bool{}
		for _, h := range all {
			key := variant.Key(a, h)
			met[key] = true
			if !slices.Contains(keys, key) {
				t.Fatal("P23.5: a key is missing:", a, key)
			}
		}
		for _, key := range keys {
			values, e := variant.Parse(a, key)
			var h []api.Header
			for i, v := range values {
				if v != "" {
					h = append(h, api.Header{Name: a[i].Header, Value: v})
				}
			}
			if e != api.OK || variant.Key(a, h) != key || !met[key] {
				t.Fatal("P23.4, P23.8:", a, key, values, e)
			}
		}
		j := variant.Join(a, b)
		if variant.Check(j) != api.OK {
			t.Fatal("P23.6: Join:", a, b, j)
		}
		for i, v := range j {
			ia := slices.IndexFunc(a, func(x api.Vary) bool { return x.Header == v.Header })
			ib := slices.IndexFunc(b, func(x api.Vary) bool { return x.Header == v.Header })
			var values []string
			def := ""
			if ia >= 0 {
				values, def = append(values, a[ia].Values...), a[ia].Default
			}
			if ib >= 0 {
				values = append(values, b[ib].Values...)
				if ia < 0 {
					def = b[ib].Default
				} else if def != b[ib].Default {
					def = ""
				}
			}
			slices.Sort(values)
			if i < len(a) != (ia >= 0) || i < len(a) && ia != i || !slices.Equal(v.Values, slices.Compact(values)) || v.Default != def {
				t.Fatal("P23.6: Join:", a, b, j)
			}
		}
		x, y, ok := variant.Split(a, b)
		if u, v, found := slowSplit(a, b); found != ok || !slices.Equal(u, x) || !slices.Equal(v, y) {
			t.Fatal("P23.7: Split is not the first pair:", a, b, x, y, u, v)
		}
		if ok && (!variant.Same(a, x, y) || variant.Same(b, x, y)) || !ok && (x != nil || y != nil) {
			t.Fatal("P23.7: Split:", a, b, x, y)
		}
		if _, _, ok := variant.Split(j, a); ok {
			t.Fatal("P23.10: Split of Join:", a, b)
		}
		for range 60 {
			x, y := all[r.Intn(len(all))], all[r.Intn(len(all))]
			if variant.Same(a, x, y) != (variant.Key(a, x) == variant.Key(a, y)) {
				t.Fatal("P23.3: Same")
			}
			if variant.Same(j, x, y) && !(variant.Same(a, x, y) && variant.Same(b, x, y)) {
				t.Fatal("P23.9:", a, b, x, y)
			}
			if !ok && variant.Same(a, x, y) && !variant.Same(b, x, y) {
				t.Fatal("P23.10: Split finds nothing:", a, b, x, y)
			}
		}
		for i := range j {
			if len(j[i].Values) > 0 {
				j[i].Values[0] = "changed"
			}
		}
		if !reflect.DeepEqual(a, old) {
			t.Fatal("P23.6: Join shares memory")
		}
	}
}
