package index_test

import (
	"cmp"
	"maps"
	"math"
	"math/rand"
	"reflect"
	"slices"
	"strconv"
	"strings"
	"testing"

	"weirgate/address"
	"weirgate/api"
	"weirgate/index"
)

func item(key, tags string, size int) api.Item { return api.Item{Key: key, Tags: tags, Size: size} }

func of(t *testing.T, l ...api.Item) index.Index {
	t.Helper()
	x := index.New()
	for _, it := range l {
		var e api.Errno
		if x, e = x.Put(it); e != api.OK {
			t.Fatal("Put:", it, e)
		}
	}
	return x
}

// items are those of a model, in ascending order of keys.
func items(m map[string]api.Item) []api.Item {
	return slices.SortedFunc(maps.Values(m), func(a, b api.Item) int { return cmp.Compare(a.Key, b.Key) })
}

func filter(l []api.Item, keep func(api.Item) bool) []api.Item {
	var out []api.Item
	for _, it := range l {
		if keep(it) {
			out = append(out, it)
		}
	}
	return out
}

func addr(it api.Item) string {
	a, _, _ := strings.Cut(it.Key, " ")
	return a
}

func TestValid(t *testing.T) {
	for i, it := range []api.Item{
		item("acme ", "", 0), item("acme/a de", "x,y", api.MaxBytes), item("acme?a=1 !~", "x", 1), item("a "+strings.Repeat("v", api.MaxText-2), "", 0), {Key: "a b", Ref: math.MinInt},
	} {
		if !index.Valid(it) {
			t.Error("P15.1: a valid item:", i)
		}
	}
	for i, it := range []api.Item{
		{}, item("acme", "", 0), item(" ", "", 0), item("Acme ", "", 0), item("acme/ ", "", 0), item("acme/../a x", "", 0), item("acme a b", "", 0), item("acme \x20", "", 0), item("acme a\x7f", "", 0), item("acme \t", "", 0), item("acme é", "", 0),
		item("a "+strings.Repeat("v", api.MaxText-1), "", 0), item("acme ", "y,x", 0), item("acme ", "X", 0), item("acme ", ",", 0), item("acme ", "", -1), item("acme ", "", api.MaxBytes+1), item("acme?b=1&a=1 ", "", 0),
	} {
		if index.Valid(it) {
			t.Error("P15.1: an item that is not valid:", i)
		}
		x := of(t, item("acme ", "", 3))
		if y, e := x.Put(it); e != api.ErrArg || !reflect.DeepEqual(x, y) {
			t.Error("P15.2: an item that is not valid:", i, e)
		}
	}
}

func TestExample(t *testing.T) {
	one, two, three, four := item("acme/a de", "x", 1), item("acme/a/b -", "x,y", 2), item("acme/ab -", "", 4), item("bolt/a -", "x", 8)
	x := of(t, four, two, one, three)
	for i, c := range []struct{ got, want []api.Item }{
		{x.From("", 9), []api.Item{one, two, three, four}}, {x.From("acme/a/", 2), []api.Item{two, three}}, {x.From("acme/a/b -", 1), []api.Item{two}}, {x.From("", 0), nil}, {x.From("", -1), nil}, {x.From("", math.MinInt), nil}, {x.From("z", 5), nil}, {x.From("", math.MaxInt), []api.Item{one, two, three, four}},
		{x.Under("acme/a"), []api.Item{one, two}}, {x.Under("acme"), []api.Item{one, two, three}}, {x.Under("acm"), nil}, {x.Under(""), nil}, {x.Under("Acme"), nil}, {x.Under("acme/"), nil}, {x.Under("acme/a de"), nil},
		{x.Tagged("acme", "x"), []api.Item{one, two}}, {x.Tagged("bolt", "y"), nil}, {x.Tagged("acme", "y"), []api.Item{two}}, {x.Tagged("acme", ""), nil}, {x.Tagged("", "x"), nil}, {x.Tagged("acme", "x acme/a"), nil}, {x.Tagged("acme", "x,y"), nil}, {x.Tagged("acme:x", "x"), nil},
	} {
		if !slices.Equal(c.got, c.want) {
			t.Error("P15.3, P15.4:", i, c.got)
		}
	}
	if x.Len() != 4 || x.Size() != 15 {
		t.Error("P15.3:", x.Len(), x.Size())
	}
	var zero index.Index
	if !reflect.DeepEqual(zero, index.New()) || zero.Len() != 0 || zero.Size() != 0 || len(zero.From("", 9)) != 0 {
		t.Error("P15.1: the zero index")
	}
	if y, ok := zero.Delete("acme/a de"); ok || !reflect.DeepEqual(y, zero) {
		t.Error("P15.2: Delete of nothing")
	}
	if it, ok := zero.Get("acme/a de"); ok || it != (api.Item{}) {
		t.Error("P15.2: Get of nothing")
	}
	if y := of(t, item("acme?a=1 v", "", 1), item("acme/a?q=1 v", "", 1), item("acme v", "", 1), item("acme-2 v", "", 1)); len(y.Under("acme")) != 3 || len(y.Under("acme/a")) != 1 || len(y.Under("acme?a=1")) != 0 {
		t.Error("P15.4: queries")
	}
}

var keys = []string{"a ", "a x", "a/b ", "a/b x", "a/b/c x", "a/b?q=1 x", "a/bc x", "a/b-c x", "a?q=1 ", "b/a x", "b x", "ab/b x", "ab "}

func random(r *rand.Rand) api.Item {
	return api.Item{Key: keys[r.Intn(len(keys))], Tags: []string{"", "x", "x,y", "y,z", "xx"}[r.Intn(5)], Size: r.Intn(50), Ref: r.Intn(3)}
}

// check compares an index with a model.
func check(t *testing.T, x index.Index, m map[string]api.Item) {
	t.Helper()
	all, size := items(m), 0
	for _, it := range all {
		size += it.Size
	}
	if x.Len() != len(m) || x.Size() != size || !slices.Equal(x.From("", 99), all) {
		t.Fatal("P15.2, P15.3:", x.From("", 99), all)
	}
	for _, k := range append(keys, "", "a", "a/b", "a/bz", "c") {
		it, ok := x.Get(k)
		if want, has := m[k]; it != want || ok != has {
			t.Fatal("P15.2: Get:", k, it, ok)
		}
		if !slices.Equal(x.From(k, 3), filter(all, func(it api.Item) bool { return it.Key >= k })[:min(3, len(x.From(k, 99)))]) {
			t.Fatal("P15.3: From:", k)
		}
		if !slices.Equal(x.Under(k), filter(all, func(it api.Item) bool { return address.Under(k, addr(it)) })) {
			t.Fatal("P15.4, P15.7: Under:", k, x.Under(k))
		}
	}
	for _, c := range []string{"a", "b", "ab", "c"} {
		for _, tag := range []string{"x", "y", "z", "xx", "w"} {
			want := filter(all, func(it api.Item) bool {
				a, _ := address.Parse(addr(it))
				return a.Customer == c && address.HasTag(it.Tags, tag)
			})
			if !slices.Equal(x.Tagged(c, tag), want) {
				t.Fatal("P15.4: Tagged:", c, tag, x.Tagged(c, tag))
			}
		}
	}
}

func TestRandom(t *testing.T) {
	r := rand.New(rand.NewSource(1))
	for range 60 {
		x, m := index.New(), map[string]api.Item{}
		oldX, oldM := x, maps.Clone(m)
		for range 40 {
			it := random(r)
			before := x
			if r.Intn(3) == 0 {
				var ok bool
				_, has := m[it.Key]
				if x, ok = x.Delete(it.Key); ok != has {
					t.Fatal("P15.2: Delete:", it.Key, ok)
				}
				if has {
					if back, _ := x.Put(m[it.Key]); !slices.Equal(back.From("", 99), before.From("", 99)) {
						t.Fatal("P15.6: Put takes Delete back")
					}
				}
				delete(m, it.Key)
			} else {
				old, has := x.Get(it.Key)
				var e api.Errno
				if x, e = x.Put(it); e != api.OK {
					t.Fatal("P15.2: Put:", it, e)
				}
				back, _ := x.Delete(it.Key)
				if has {
					back, _ = x.Put(old)
				}
				if !slices.Equal(back.From("", 99), before.From("", 99)) {
					t.Fatal("P15.6: Put is taken back")
				}
				m[it.Key] = it
			}
			check(t, x, m)
			if r.Intn(8) == 0 {
				check(t, oldX, oldM)
				gone, came := index.Changes(oldX, x)
				if !slices.Equal(gone, filter(items(oldM), func(it api.Item) bool { return m[it.Key] != it })) || !slices.Equal(came, filter(items(m), func(it api.Item) bool { return oldM[it.Key] != it })) {
					t.Fatal("P15.5:", gone, came)
				}
				y := oldX
				for _, it := range gone {
					y, _ = y.Delete(it.Key)
				}
				for _, it := range came {
					y, _ = y.Put(it)
				}
				check(t, y, m)
				oldX, oldM = x, maps.Clone(m)
			}
		}
	}
}

func TestOrderDoesNotMatter(t *testing.T) {
	r := rand.New(rand.NewSource(2))
	for range 100 {
		var l []api.Item
		for _, k := range keys {
			l = append(l, api.Item{Key: k, Tags: "x,y", Size: r.Intn(9)})
		}
		x := of(t, l...)
		r.Shuffle(len(l), func(i, k int) { l[i], l[k] = l[k], l[i] })
		y := of(t, l...)
		gone, came := index.Changes(x, y)
		if len(gone)+len(came) > 0 || !reflect.DeepEqual(x, y) {
			t.Fatal("P15.6: the order matters")
		}
	}
}

func TestResultsAreNew(t *testing.T) {
	x := of(t, item("a/b x", "t", 1), item("a/c x", "t", 1))
	clear(x.From("", 9))
	clear(x.Under("a"))
	clear(x.Tagged("a", "t"))
	if x.From("", 1)[0].Key != "a/b x" || x.Tagged("a", "t")[1].Key != "a/c x" {
		t.Error("results share memory with the index")
	}
}

func TestLimit(t *testing.T) {
	x := index.New()
	for i := range api.MaxItems {
		x, _ = x.Put(item("a/"+strconv.Itoa(i)+" ", "", api.MaxBytes))
	}
	if x.Len() != api.MaxItems || x.Size() != api.MaxItems*api.MaxBytes {
		t.Fatal("P15.3: the greatest index:", x.Len(), x.Size())
	}
	if y, e := x.Put(item("b ", "", 5)); e != api.ErrLimit || y.Len() != api.MaxItems {
		t.Error("P15.2: too many items:", e)
	} else if _, ok := y.Get("b "); ok {
		t.Error("P15.2: an index changes with an error")
	}
	if y, e := x.Put(item("a/77 ", "", 5)); e != api.OK || y.Len() != api.MaxItems || y.Size() != x.Size()-api.MaxBytes+5 {
		t.Error("P15.2: an item in the place of another one:", e)
	}
	if y, e := x.Put(item("b", "", 5)); e != api.ErrArg || y.Len() != api.MaxItems {
		t.Error("P15.2: ErrArg comes first:", e)
	}
}
