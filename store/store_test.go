package store_test

import (
	"fmt"
	"maps"
	"math/rand"
	"reflect"
	"slices"
	"strings"
	"testing"

	"weirgate/admit"
	"weirgate/api"
	"weirgate/disk"
	"weirgate/entry"
	"weirgate/epoch"
	"weirgate/origin"
	"weirgate/sketch"
	"weirgate/store"
)

const sectors = 2000 // 15 segments: the room is 56

func accounts(n int) []api.Account {
	var l []api.Account
	for i := range n {
		l = append(l, api.Account{Tenant: i + 1, Weight: 1})
	}
	return l
}

func empty() api.Sketch {
	k, _ := sketch.New(64, 1000)
	return k
}

func open(t *testing.T, d *disk.Disk) *store.Store {
	t.Helper()
	s, e := store.Open(d, accounts(2), empty())
	if e != api.OK {
		t.Fatal("Open:", e)
	}
	return s
}

func stampOf(addr, bytes string, at int) api.Stamp {
	return api.Stamp{Addr: addr, Variant: "v", Status: 200, Size: len(bytes), Body: origin.Digest(bytes), Tags: "t", At: api.Period{Lo: at, Hi: at + 5}, Gate: 7, Serial: 1}
}

// whole returns an entry with all bytes.
func whole(addr, bytes string, at int) api.Entry {
	e, _ := entry.Begin(stampOf(addr, bytes, at))
	if len(bytes) > 0 {
		e, _ = entry.Put(e, 0, bytes)
	}
	return e
}

func mustPut(t *testing.T, s *store.Store, tenant int, e api.Entry, at int) {
	t.Helper()
	if v, why := s.Put(tenant, e, at); why != api.OK || len(v) > 0 {
		t.Fatal("Put:", v, why)
	}
}

func TestNamePieces(t *testing.T) {
	if n := store.Name(stampOf("acme/a", "", 0)); n != "acme/a v" {
		t.Error("P36.1: Name:", n)
	}
	base := len(entry.Pack(whole("acme/a", "", 0)))
	for _, n := range []int{0, 1, api.MaxChunk - base - 1, api.MaxChunk - base, 400, 3000, api.MaxEntry} {
		e := whole("acme/a", strings.Repeat("x", n), 0)
		want := (len(entry.Pack(e)) + api.MaxChunk - 1) / api.MaxChunk
		if p := store.Pieces(e); p != want || want < 1 {
			t.Error("P36.1: Pieces:", n, p, want)
		}
	}
}

func TestExample(t *testing.T) {
	d := disk.New(sectors)
	s := open(t, d)
	if s.Room() != 56 || len(s.Shelf().Held) != 0 || s.Index().Len() != 0 || !reflect.DeepEqual(s.Shelf().Sketch, empty()) || !slices.Equal(s.Shelf().Accounts, accounts(2)) {
		t.Error("P36.2: a new store:", s.Room())
	}
	a, b := whole("acme/a", strings.Repeat("a", 60), 10), whole("acme/b", strings.Repeat("b", 60), 10)
	mustPut(t, s, 1, a, 5)
	if e, why := s.Get("acme/a v"); !reflect.DeepEqual(e, a) || why != api.OK {
		t.Error("P36.3:", e, why)
	}
	if v, why := s.Put(3, b, 5); v != nil || why != api.ErrName {
		t.Error("P36.4: no account:", v, why)
	}
	if h := s.Shelf().Held; !slices.Equal(h, []api.Stored{{Name: "acme/a v", Tenant: 1, Size: 1, Last: 5}}) {
		t.Error("P36.1: the shelf:", h)
	}
	if l := s.Index().From("", 9); !slices.Equal(l, []api.Item{{Key: "acme/a v", Tags: "t", Size: 1, Ref: 1}}) {
		t.Error("P36.2: the index:", l)
	}
	s = open(t, d.Crash(nil))
	if e, why := s.Get("acme/a v"); !reflect.DeepEqual(e, a) || why != api.OK {
		t.Error("P36.7:", e, why)
	}
	if h := s.Shelf().Held; !slices.Equal(h, []api.Stored{{Name: "acme/a v", Tenant: 1, Size: 1}}) || s.Shelf().Accounts[0].Used != 1 {
		t.Error("P36.2: the shelf after Open:", h)
	}
	if why := s.Remove("acme/a v"); why != api.OK || len(s.Shelf().Held) != 0 || s.Index().Len() != 0 || s.Shelf().Accounts[0].Used != 0 {
		t.Error("P36.5:", why)
	}
	if e, why := s.Get("acme/a v"); !reflect.DeepEqual(e, api.Entry{}) || why != api.ErrName {
		t.Error("P36.3:", e, why)
	}
	if why := s.Remove("acme/a v"); why != api.ErrName {
		t.Error("P36.5:", why)
	}
	if v, why := s.Put(2, whole("Acme", "x", 0), 0); v != nil || why != api.ErrArg {
		t.Error("P36.4:", v, why)
	}
}

func TestErrors(t *testing.T) {
	down := disk.New(sectors)
	down.Arm(0)
	down.Sync()
	for i, x := range []struct {
		d *disk.Disk
		l []api.Account
		k api.Sketch
		e api.Errno
	}{
		{disk.New(5), accounts(2), empty(), 1}, {down, nil, api.Sketch{}, 130}, {disk.New(8 * 129), []api.Account{{}}, empty(), 140}, {disk.New(9*129 - 1), accounts(2), empty(), 140}, {disk.New(9 * 129), accounts(2), empty(), 0}, {disk.New(9 * 129), []api.Account{{}}, empty(), 1}, {disk.New(9 * 129), accounts(2), api.Sketch{}, 1}, {disk.New(9 * 129), []api.Account{{Tenant: 1, Weight: 1, Used: 1}}, empty(), 1},
	} {
		s, why := store.Open(x.d, x.l, x.k)
		if why != x.e || (s == nil) != (why != api.OK) || s != nil && s.Room() != 8 {
			t.Error("P36.2: Open:", i, why)
		}
	}
	d := disk.New(sectors)
	s := open(t, d)
	a := whole("acme/a", "abc", 10)
	mustPut(t, s, 1, a, 5)
	bad := a
	bad.Whole = false
	odd := a
	odd.Stamp.Variant = "a b"
	long := a
	long.Stamp.Variant = strings.Repeat("v", api.MaxText)
	untidy := a
	untidy.Stamp.Tags = "b,a"
	for i, x := range []struct {
		tenant int
		e      api.Entry
		at     int
		why    api.Errno
	}{{9, bad, 0, 1}, {9, odd, 0, 1}, {9, long, 0, 1}, {9, untidy, 0, 1}, {9, a, -1, 1}, {9, a, api.MaxTime + 1, 1}, {9, a, 0, 5}, {1, whole("acme/b", strings.Repeat("x", 60*360), 0), 0, 2}} {
		old := s.Shelf()
		if v, why := s.Put(x.tenant, x.e, x.at); v != nil || why != x.why || !reflect.DeepEqual(s.Shelf(), old) {
			t.Error("P36.4: Put:", i, why)
		}
	}
	if e, why := s.Get("acme/a v"); why != api.OK || !reflect.DeepEqual(e, a) {
		t.Error("P36.4: something has changed with an error:", why)
	}
	if s.Touch("x", -1) != api.ErrArg || s.Touch("x", api.MaxTime+1) != api.ErrArg {
		t.Error("P36.3: Touch: ErrArg")
	}
	if why := s.Touch("acme/a v", 9); why != api.OK || s.Shelf().Held[0].Last != 9 || sketch.Count(s.Shelf().Sketch, "acme/a v") != 1 {
		t.Error("P36.3: Touch:", why, s.Shelf().Held)
	}
	d.Arm(0)
	if v, why := s.Put(1, whole("acme/c", "c", 0), 0); v != nil || why != api.ErrDown {
		t.Error("P36.4: the disk fails:", why)
	}
	if _, why := s.Put(1, bad, 0); why != api.ErrArg {
		t.Error("P36.4: ErrArg comes first:", why)
	}
	if _, why := s.Put(1, a, 0); why != api.ErrDown {
		t.Error("P36.4: the disk is down:", why)
	}
	if _, why := s.Get("acme/a v"); why != api.ErrDown {
		t.Error("P36.3: the disk is down:", why)
	}
	if _, why := s.Get("acme/z v"); why != api.ErrName {
		t.Error("P36.3: ErrName comes first:", why)
	}
	if s.Touch("x", -1) != api.ErrArg || s.Touch("x", 5) != api.ErrDown || s.Remove("z") != api.ErrName || s.Remove("acme/a v") != api.ErrDown {
		t.Error("P36.3, P36.5: the disk is down")
	}
	if l, why := s.Apply(epoch.Table{}); l != nil || why != api.ErrDown {
		t.Error("P36.6: the disk is down:", why)
	}
}

func TestMerge(t *testing.T) {
	d := disk.New(sectors)
	s := open(t, d)
	part, _ := entry.Begin(stampOf("acme/a", "abcdef", 10))
	one, _ := entry.Put(part, 0, "abc")
	two, _ := entry.Put(part, 3, "def")
	mustPut(t, s, 1, one, 5)
	mustPut(t, s, 2, two, 3)
	if e, why := s.Get("acme/a v"); why != api.OK || !e.Whole || e.Bytes != "abcdef" {
		t.Error("P36.4: entries are merged:", e, why)
	}
	if h := s.Shelf().Held; len(h) != 1 || h[0].Tenant != 2 || h[0].Last != 3 || s.Shelf().Accounts[0].Used != 0 {
		t.Error("P36.4: the tenant:", h)
	}
	mustPut(t, s, 2, whole("acme/a", "older", 5), 9)
	if e, _ := s.Get("acme/a v"); e.Bytes != "abcdef" {
		t.Error("P36.4: the better stamp:", e)
	}
	soft := whole("acme/a", "newer", 50)
	soft.Soft = true
	mustPut(t, s, 2, soft, 9)
	s = open(t, d.Crash(nil))
	if e, _ := s.Get("acme/a v"); !reflect.DeepEqual(e, soft) {
		t.Error("P36.2: an entry that was put soft:", e)
	}
}

func issue(t *testing.T, l []api.Epoch, at int, purges ...api.Purge) []api.Epoch {
	t.Helper()
	k := api.Key{Party: api.Authority, Serial: 1, Secret: "s", From: 0, To: api.MaxTime}
	e, why := epoch.Issue(k, l, api.Period{Lo: at, Hi: at}, purges, nil)
	if why != api.OK {
		t.Fatal("Issue:", why)
	}
	return append(l, e)
}

func TestApply(t *testing.T) {
	d := disk.New(sectors)
	s := open(t, d)
	for _, addr := range []string{"acme/c", "acme/a", "acme/b", "bolt/a"} {
		mustPut(t, s, 1, whole(addr, addr, 10), 0)
	}
	l := issue(t, nil, 20, api.Purge{Kind: api.PuAddress, What: "acme/c"}, api.Purge{Kind: api.PuAddress, What: "acme/a"}, api.Purge{Kind: api.PuPrefix, What: "acme", Soft: true})
	gone, why := s.Apply(epoch.Fold(l))
	if why != api.OK || !slices.Equal(gone, []string{"acme/a v", "acme/c v"}) || len(s.Shelf().Held) != 2 {
		t.Error("P36.6:", gone, why)
	}
	if e, _ := s.Get("acme/b v"); !e.Soft {
		t.Error("P36.6: a stale copy is soft")
	}
	if e, _ := s.Get("bolt/a v"); e.Soft {
		t.Error("P36.6: another copy is not")
	}
	if gone, why := s.Apply(epoch.Fold(l)); why != api.OK || len(gone) != 0 {
		t.Error("P36.6: once more:", gone, why)
	}
	again := open(t, d.Crash(nil))
	if e, _ := again.Get("acme/b v"); e.Soft || again.Index().Len() != 2 {
		t.Error("P36.2: after Open it is not soft")
	}
	mustPut(t, s, 1, whole("acme/b", "acme/b", 30), 0)
	if e, _ := s.Get("acme/b v"); e.Soft {
		t.Error("P36.6: another stamp")
	}
	if _, why := s.Apply(epoch.Fold(l)); why != api.OK {
		t.Error("P36.6:", why)
	}
	if e, _ := s.Get("acme/b v"); e.Soft {
		t.Error("P36.6: a newer stamp is not hit")
	}
}

func TestFull(t *testing.T) {
	s := open(t, disk.New(sectors))
	big := func(addr string, n, at int) api.Entry {
		return whole(addr, strings.Repeat("x", (n-1)*api.MaxChunk), at)
	}
	if store.Pieces(big("acme/a", 30, 1)) != 30 {
		t.Fatal("the test is wrong")
	}
	mustPut(t, s, 1, big("acme/a", 30, 1), 0)
	old := s.Shelf()
	if v, why := s.Put(1, big("acme/a", 30, 2), 0); v != nil || why != api.ErrFull || !reflect.DeepEqual(s.Shelf(), old) {
		t.Error("P36.4: no room for both:", v, why)
	}
	mustPut(t, s, 1, big("acme/a", 26, 2), 0)
	mustPut(t, s, 1, big("acme/b", 30, 2), 0)
	if v, why := s.Put(1, big("acme/c", 10, 2), 7); why != api.ErrWorth || v != nil {
		t.Error("P36.4: the error of Admit:", v, why)
	}
	s.Touch("acme/c v", 7)
	if v, why := s.Put(1, big("acme/c", 10, 2), 7); why != api.OK || !slices.Equal(v, []string{"acme/a v"}) {
		t.Error("P36.4: victims:", v, why)
	}
	if h := s.Shelf().Held; len(h) != 2 || h[0].Name != "acme/b v" || h[1].Last != 7 {
		t.Error("P36.4: victims:", h)
	}
	if _, why := s.Get("acme/a v"); why != api.ErrName {
		t.Error("P36.4: a victim is there:", why)
	}
}

// model is what a store must hold.
type model struct {
	entries map[string]api.Entry
	tenants map[string]int
}

func (m model) clone() model { return model{maps.Clone(m.entries), maps.Clone(m.tenants)} }

func (m model) without(names ...string) model {
	m = m.clone()
	for _, n := range names {
		delete(m.entries, n)
		delete(m.tenants, n)
	}
	return m
}

func (m model) with(name string, tenant int, e api.Entry) model {
	m = m.clone()
	m.entries[name], m.tenants[name] = e, tenant
	return m
}

// holds reports whether a store holds what a model says.
func (m model) holds(s *store.Store) bool {
	shelf := s.Shelf()
	if len(shelf.Held) != len(m.entries) || s.Index().Len() != len(m.entries) || !admit.Valid(shelf) || shelf.Capacity != s.Room() {
		return false
	}
	for _, h := range shelf.Held {
		e, why := s.Get(h.Name)
		want, ok := m.entries[h.Name]
		item, found := s.Index().Get(h.Name)
		if !ok || why != api.OK || !reflect.DeepEqual(e, want) || h.Tenant != m.tenants[h.Name] || h.Size != store.Pieces(want) ||
			!found || item != (api.Item{Key: h.Name, Tags: want.Stamp.Tags, Size: h.Size, Ref: h.Tenant}) {
			return false
		}
	}
	return true
}

func randomEntry(r *rand.Rand) api.Entry {
	addr := []string{"acme/a", "acme/b", "acme/b/c", "bolt/a", "bolt/d", "cart", "acme/e"}[r.Intn(7)]
	n := r.Intn(5)
	bytes := strings.Repeat(fmt.Sprint(n), r.Intn(200*(n+1)))
	e, _ := entry.Begin(stampOf(addr, bytes, n))
	if r.Intn(4) > 0 && !e.Whole {
		e, _ = entry.Put(e, 0, bytes)
	} else if k := len(bytes); k > 0 {
		e, _ = entry.Put(e, k/2, bytes[k/2:k/2+k/4])
	}
	return e
}

// act does something random with a store whose content is a model; it returns what the store may hold after a failure within it, and whether it has failed.
func act(t *testing.T, r *rand.Rand, s *store.Store, m model, chain *[]api.Epoch) (model, []model, bool) {
	switch r.Intn(12) {
	case 0:
		if len(m.entries) == 0 {
			return m, nil, false
		}
		names := slices.Sorted(maps.Keys(m.entries))
		name := names[r.Intn(len(names))]
		next := m.without(name)
		why := s.Remove(name)
		if why != api.OK && why != api.ErrDown {
			t.Fatal("P36.5, P36.8:", why)
		}
		return next, []model{m, next}, why == api.ErrDown
	case 1:
		what := []string{"acme/b", "bolt", "cart"}[r.Intn(3)]
		*chain = issue(t, *chain, len(*chain)/4, api.Purge{Kind: api.PuPrefix, What: what, Soft: r.Intn(2) == 0})
		table := epoch.Fold(*chain)
		next, may := m.clone(), []model{m}
		var want []string
		for _, name := range slices.Sorted(maps.Keys(m.entries)) {
			e := m.entries[name]
			switch table.State(e.Stamp) {
			case api.CoStale:
				e.Soft = true
				next.entries[name] = e
			case api.CoRemoved:
				want = append(want, name)
				next = next.without(name)
				may = append(may, may[len(may)-1].without(name))
			}
		}
		gone, why := s.Apply(table)
		if why != api.ErrDown && (why != api.OK || !slices.Equal(gone, want)) {
			t.Fatal("P36.6, P36.8:", gone, want, why)
		}
		return next, may, why == api.ErrDown
	case 2, 3:
		s.Touch(store.Name(randomEntry(r).Stamp), r.Intn(50))
		return m, []model{m}, false
	}
	e, tenant, at := randomEntry(r), 1+r.Intn(2), r.Intn(50)
	name := store.Name(e.Stamp)
	merged, before := e, 0
	if old, ok := m.entries[name]; ok {
		merged, _ = entry.Merge(old, e)
		before = store.Pieces(old)
	}
	others, _ := admit.Remove(s.Shelf(), name)
	shelf, victims, want := admit.Admit(others, api.Stored{Name: name, Tenant: tenant, Size: store.Pieces(merged), Last: at})
	sum := before
	for _, h := range shelf.Held {
		sum += h.Size
	}
	if want == api.OK && sum > s.Room() {
		want = api.ErrFull
	}
	v, why := s.Put(tenant, e, at)
	if why == api.ErrDown {
		may := []model{m}
		for i := range victims {
			may = append(may, m.without(victims[:i+1]...))
		}
		return m, append(may, m.without(victims...).with(name, tenant, merged)), true
	}
	if why != want || why == api.OK && (!slices.Equal(v, victims) || !reflect.DeepEqual(s.Shelf(), shelf)) {
		t.Fatal("P36.4, P36.8:", v, why, victims, want)
	}
	if why != api.OK {
		return m, nil, false
	}
	return m.without(victims...).with(name, tenant, merged), nil, false
}

func TestFailures(t *testing.T) {
	failed := 0
	for seed := range 60 {
		r := rand.New(rand.NewSource(int64(seed)))
		d := disk.New(9*api.SegSectors + 5*api.SegSectors*r.Intn(2))
		m := model{map[string]api.Entry{}, map[string]int{}}
		for range 10 {
			s := open(t, d)
			if !m.holds(s) {
				t.Fatal("P36.2, P36.7: a store after Open:", seed)
			}
			var chain []api.Epoch
			d.Arm(r.Intn(400))
			var may []model
			for n := 0; ; n++ {
				next, choices, down := act(t, r, s, m, &chain)
				if down {
					may = choices
					failed++
					break
				}
				m = next
				if n%10 == 0 && !d.Down() && !m.holds(s) {
					t.Fatal("the store holds something else:", seed)
				}
				if d.Down() || n > 150 {
					may = []model{m}
					break
				}
			}
			keep := make([]int, r.Intn(6))
			for i := range keep {
				keep[i] = r.Intn(9)
			}
			d = d.Crash(keep)
			s = open(t, d)
			found := model{map[string]api.Entry{}, map[string]int{}}
			for _, h := range s.Shelf().Held {
				e, why := s.Get(h.Name)
				if why != api.OK {
					t.Fatal("P36.7: an object cannot be read:", seed, why)
				}
				found = found.with(h.Name, h.Tenant, e)
			}
			if !slices.ContainsFunc(may, func(x model) bool { return same(x, found) }) {
				t.Fatal("P36.7: another content:", seed, len(may), slices.Sorted(maps.Keys(found.entries)), slices.Sorted(maps.Keys(may[0].entries)))
			}
			m = found
			d = d.Crash(nil)
		}
	}
	if failed < 100 {
		t.Error("too few failures:", failed)
	}
}

// same reports whether two models are the same, but for marks of epochs, which do not last.
func same(a, b model) bool {
	if !maps.Equal(a.tenants, b.tenants) || len(a.entries) != len(b.entries) {
		return false
	}
	for name, e := range a.entries {
		f, ok := b.entries[name]
		e.Soft, f.Soft = false, false
		if !ok || !reflect.DeepEqual(e, f) {
			return false
		}
	}
	return true
}

// A store is used for long, with objects of all sizes: there is always room.
func TestLong(t *testing.T) {
	r := rand.New(rand.NewSource(9))
	for _, segments := range []int{9, 10, 15, 31} {
		d := disk.New(segments * api.SegSectors)
		s := open(t, d)
		if s.Room() != 8*segments-64 {
			t.Error("P36.2: Room:", s.Room())
		}
		m := model{map[string]api.Entry{}, map[string]int{}}
		var chain []api.Epoch
		for n := range 1500 {
			m, _, _ = act(t, r, s, m, &chain)
			if n%100 == 99 {
				if !m.holds(s) {
					t.Fatal("P36.8: the store holds something else:", segments, n)
				}
				if n%300 == 299 { // many restarts leave segments that are not full
					for range 20 {
						s = open(t, d)
					}
					for name, e := range m.entries {
						got, _ := s.Get(name)
						e.Soft = got.Soft
						m.entries[name] = e
					}
					chain = nil
				}
			}
		}
	}
}

func TestTenants(t *testing.T) {
	d := disk.New(sectors)
	s := open(t, d)
	mustPut(t, s, 1, whole("acme/a", "old", 1), 0)
	mustPut(t, s, 1, whole("acme/a", "new", 2), 0)
	mustPut(t, s, 2, whole("acme/b", "b", 1), 0)
	one, why := store.Open(d, accounts(3)[1:], empty())
	if why != api.OK || one.Index().Len() != 1 || len(one.Shelf().Held) != 1 {
		t.Error("P36.2: a tenant without an account:", why)
	}
	if _, why := one.Get("acme/a v"); why != api.ErrName {
		t.Error("P36.2: it is removed:", why)
	}
	if again := open(t, d.Crash(nil)); again.Index().Len() != 1 {
		t.Error("P36.2: it is removed durably")
	}
}

func TestRot(t *testing.T) {
	base := disk.New(9 * api.SegSectors)
	s := open(t, base)
	put := map[string][]api.Entry{}
	r := rand.New(rand.NewSource(4))
	for range 60 {
		e := whole([]string{"acme/a", "acme/b", "acme/c"}[r.Intn(3)], strings.Repeat("z", r.Intn(500)), r.Intn(40))
		if r.Intn(5) == 0 {
			s.Remove(store.Name(e.Stamp))
		}
		if _, why := s.Put(1, e, 0); why == api.OK {
			put[store.Name(e.Stamp)] = append(put[store.Name(e.Stamp)], e)
		}
	}
	for i := range 1500 {
		d := base.Crash(nil)
		before := open(t, d)
		for range 1 + r.Intn(3) {
			sector := r.Intn(9 * api.SegSectors)
			if i%2 == 0 {
				d.Rot(sector)
			} else {
				d.Flip(sector, r.Intn(512))
			}
		}
		for _, s := range []*store.Store{before, open(t, d)} {
			shelf := s.Shelf()
			if !admit.Valid(shelf) {
				t.Fatal("P36.8: the shelf:", shelf)
			}
			for _, h := range shelf.Held {
				e, why := s.Get(h.Name)
				if why != api.OK {
					continue
				}
				known := slices.ContainsFunc(put[h.Name], func(x api.Entry) bool { return x.Stamp == e.Stamp })
				if !entry.Valid(e) || store.Name(e.Stamp) != h.Name || !known {
					t.Fatal("P36.9: something that was never put:", e)
				}
			}
			// The store can be used further.
			for n := range 3 {
				e := whole("bolt/x", strings.Repeat("y", 300*n), i)
				if _, why := s.Put(2, e, 0); why != api.OK && why != api.ErrWorth && why != api.ErrFull && why != api.ErrLimit {
					t.Fatal("P36.9: Put after rot:", why)
				}
				if got, why := s.Get("bolt/x v"); why == api.OK && got.Stamp.Addr != "bolt/x" {
					t.Fatal("P36.9:", got)
				}
			}
			if !admit.Valid(s.Shelf()) {
				t.Fatal("P36.8: the shelf after Put")
			}
			if _, why := s.Apply(epoch.Fold(issue(t, nil, 1000, api.Purge{Kind: api.PuPrefix, What: "acme"}))); why != api.OK {
				t.Fatal("P36.10:", why)
			}
			for _, h := range s.Shelf().Held {
				if strings.HasPrefix(h.Name, "acme") {
					t.Fatal("P36.10: a removed object is held:", h)
				}
			}
		}
	}
}

func TestMemory(t *testing.T) {
	s := open(t, disk.New(sectors))
	mustPut(t, s, 1, whole("acme/a", "abc", 1), 0)
	shelf := s.Shelf()
	shelf.Held[0].Name, shelf.Accounts[0].Used, shelf.Sketch.Cells[0] = "z", 99, 9
	x := s.Index()
	mustPut(t, s, 1, whole("acme/b", "abc", 1), 0)
	if h := s.Shelf(); h.Held[0].Name != "acme/a v" || !admit.Valid(h) || x.Len() != 1 || !reflect.DeepEqual(x.From("", 9)[0], api.Item{Key: "acme/a v", Tags: "t", Size: 1, Ref: 1}) {
		t.Error("results share memory with the store")
	}
}
