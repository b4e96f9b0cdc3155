package seal_test

import (
	"math"
	"math/rand"
	"slices"
	"strings"
	"testing"

	"weirgate/api"
	"weirgate/hash"
	"weirgate/seal"
	"weirgate/wire"
)

func key(party, serial int, secret string, from, to int) api.Key {
	return api.Key{Party: party, Serial: serial, Secret: secret, From: from, To: to}
}

func at(lo, hi int) api.Period { return api.Period{Lo: lo, Hi: hi} }

// example is a ring with keys of several parties.
func example() []api.Key {
	return []api.Key{
		key(1, 1, "s", 0, 100),
		key(1, 4, "t", 50, 200),
		key(7, 2, "gate", 10, 1000),
		key(1003, 1, "site", 0, api.MaxTime),
	}
}

func isRing(l []api.Key) bool {
	return len(l) <= api.MaxRing && !slices.ContainsFunc(l, func(k api.Key) bool { return !seal.Valid(k) }) &&
		slices.IsSortedFunc(l, func(a, b api.Key) int {
			if a.Party != b.Party {
				return a.Party - b.Party
			}
			if a.Serial == b.Serial {
				return 1
			}
			return a.Serial - b.Serial
		})
}

func TestValid(t *testing.T) {
	good := key(5, 6, "x", 7, 8)
	long := strings.Repeat("k", 64)
	for i, k := range []api.Key{good, key(1, 1, long, 0, api.MaxTime), key(api.MaxParty, api.MaxParty, "\x00", api.MaxTime-1, api.MaxTime)} {
		if !seal.Valid(k) {
			t.Error("P4.1: a valid key:", i)
		}
	}
	for i, k := range []api.Key{
		{}, key(0, 6, "x", 7, 8), key(api.MaxParty+1, 6, "x", 7, 8), key(5, 0, "x", 7, 8), key(5, -1, "x", 7, 8),
		key(5, api.MaxParty+1, "x", 7, 8), key(5, 6, "", 7, 8), key(5, 6, long+"k", 7, 8), key(5, 6, "x", -1, 8),
		key(5, 6, "x", 8, 8), key(5, 6, "x", 9, 8), key(5, 6, "x", 7, api.MaxTime+1), key(5, 6, "x", math.MinInt, math.MaxInt),
	} {
		if seal.Valid(k) {
			t.Error("P4.1: a key that is not valid:", i)
		}
	}
}

func TestAddFind(t *testing.T) {
	r := rand.New(rand.NewSource(1))
	var ring []api.Key
	for n := range 200 {
		k := key(1+r.Intn(12), 1+r.Intn(12), "x", n, n+1)
		old := slices.Clone(ring)
		l, e := seal.Add(ring, k)
		if !slices.Equal(ring, old) {
			t.Fatal("P4.1: the argument of Add was changed")
		}
		has := slices.ContainsFunc(ring, func(o api.Key) bool { return o.Party == k.Party && o.Serial == k.Serial })
		if has && (e != api.ErrTwice || l != nil) || !has && (e != api.OK || len(l) != len(ring)+1) {
			t.Fatal("P4.1: Add:", k, e)
		}
		if !has {
			ring = l
		}
		if got, e := seal.Find(ring, k.Party, k.Serial); e != api.OK || got.Party != k.Party || got.Serial != k.Serial || !has && got != k {
			t.Fatal("P4.1: Find:", k, e)
		}
		if !isRing(ring) {
			t.Fatal("P4.9: no ring")
		}
	}
	for _, x := range [][2]int{{0, 1}, {99, 1}, {3, 0}, {3, 99}, {-5, math.MinInt}} {
		if k, e := seal.Find(ring, x[0], x[1]); e != api.ErrName || k != (api.Key{}) {
			t.Error("P4.1: Find of none:", x)
		}
	}
	if k, e := seal.Find(nil, 1, 1); e != api.ErrName || k != (api.Key{}) {
		t.Error("P4.1: Find in an empty ring")
	}
	if l, e := seal.Add(ring, key(3, 1, "x", 5, 5)); e != api.ErrArg || l != nil {
		t.Error("P4.1: Add of a key that is not valid")
	}
	var full []api.Key
	for n := range api.MaxRing {
		full = append(full, key(n+1, 1, "x", 0, 9))
	}
	for i, x := range []struct {
		k api.Key
		e api.Errno
	}{{key(5, 2, "x", 0, 9), api.ErrLimit}, {key(5, 1, "x", 0, 9), api.ErrTwice}, {key(5, 1, "", 0, 9), api.ErrArg}} {
		if l, e := seal.Add(full, x.k); e != x.e || l != nil {
			t.Error("P4.1: Add to a full ring:", i, e)
		}
	}
	if l, e := seal.Add(full[1:], key(1, 1, "x", 0, 9)); e != api.OK || len(l) != api.MaxRing {
		t.Error("P4.1: Add up to a full ring:", e)
	}
}

func TestCurrent(t *testing.T) {
	ring := example()
	for i, x := range []struct {
		party  int
		at     api.Period
		serial int
		e      api.Errno
	}{
		{1, at(3, 99), 1, 0}, {1, at(3, 100), 0, api.ErrTime}, {2, at(3, 99), 0, api.ErrName}, {2, at(3, 2), 0, api.ErrName},
		{1, at(50, 99), 4, 0}, {1, at(49, 99), 1, 0}, {1, at(50, 199), 4, 0}, {1, at(50, 200), 0, api.ErrTime}, {1, at(49, 100), 0, api.ErrTime},
		{1, at(60, 59), 0, api.ErrTime}, {1, at(-1, 5), 0, api.ErrTime}, {1003, at(5, api.MaxTime), 0, api.ErrTime},
		{1003, at(0, api.MaxTime-1), 1, 0}, {7, at(9, 20), 0, api.ErrTime}, {7, at(10, 20), 2, 0}, {0, at(5, 5), 0, api.ErrName},
	} {
		k, e := seal.Current(ring, x.party, x.at)
		if e != x.e || k.Serial != x.serial || e == api.OK && k.Party != x.party || e != api.OK && k != (api.Key{}) {
			t.Error("P4.2: case", i, k, e)
		}
	}
}

func TestRotate(t *testing.T) {
	ring := example()
	l, e := seal.Rotate(ring[:1], 1, "t", 50, 10)
	if e != api.OK || !slices.Equal(l, []api.Key{key(1, 1, "s", 0, 60), key(1, 2, "t", 50, api.MaxTime)}) {
		t.Error("P4.3: the example:", l, e)
	}
	if !slices.Equal(ring, example()) {
		t.Error("P4.3: the argument was changed")
	}
	l, e = seal.Rotate(ring, 1, "u", 150, 500)
	want := slices.Insert(example(), 2, key(1, 5, "u", 150, api.MaxTime))
	if e != api.OK || !slices.Equal(l, want) || !isRing(l) {
		t.Error("P4.3: To stays, if it is the least:", l, e)
	}
	last := []api.Key{key(1, api.MaxParty, "s", 20, 100)}
	for i, x := range []struct {
		ring        []api.Key
		party       int
		secret      string
		at, overlap int
		e           api.Errno
	}{
		{ring, 2, "", -1, -1, api.ErrName}, {ring, 1, "x", -1, 5, api.ErrArg}, {ring, 1, "x", 5, -1, api.ErrArg},
		{ring, 1, "x", api.MaxTime + 1, 5, api.ErrArg}, {ring, 1, "x", 60, api.MaxTime + 1, api.ErrArg}, {ring, 1, "", 60, 5, api.ErrArg},
		{ring, 1, strings.Repeat("x", 65), 60, 5, api.ErrArg}, {ring, 1003, "x", api.MaxTime, 5, api.ErrArg}, {last, 1, "x", 60, 5, api.ErrArg},
		{ring, 1, "x", 40, 10, api.ErrTime}, {ring, 1, "x", 40, 11, api.OK}, {ring, 1, "x", 201, 0, api.ErrTime}, {ring, 1, "x", 200, 0, api.OK},
		{ring, 1, "x", math.MinInt, math.MinInt, api.ErrArg}, {ring, 1, "x", math.MaxInt, math.MaxInt, api.ErrArg},
		{ring, 1003, "x", api.MaxTime - 1, api.MaxTime, api.OK},
	} {
		l, e := seal.Rotate(x.ring, x.party, x.secret, x.at, x.overlap)
		if e != x.e || e != api.OK && l != nil || e == api.OK && (len(l) != len(x.ring)+1 || !isRing(l)) {
			t.Error("P4.3, P4.9: case", i, e)
		}
	}
	var full []api.Key
	for n := range api.MaxRing {
		full = append(full, key(n+1, 1, "x", 0, 9))
	}
	if l, e := seal.Rotate(full, 5, "y", 5, 1); e != api.ErrLimit || l != nil {
		t.Error("P4.3: a full ring:", e)
	}
	if l, e := seal.Rotate(full, 5, "y", 50, 1); e != api.ErrTime || l != nil {
		t.Error("P4.3: ErrTime comes before ErrLimit:", e)
	}
}

func TestRotateKeeps(t *testing.T) {
	ring := example()
	l, _ := seal.Rotate(ring, 7, "new", 500, 20)
	for lo := 0; lo < 1100; lo += 7 {
		for _, p := range []api.Period{at(lo, lo), at(lo, lo+5), at(lo, lo+30)} {
			old, e := seal.Current(ring, 7, p)
			if e == api.OK && p.Hi < 500 {
				s := seal.Make(old, 9, "a")
				if seal.Check(l, 7, old.Serial, 9, []string{"a"}, s, p) != api.OK {
					t.Fatal("P4.8: what was accepted is not any more:", p)
				}
			}
			if p.Lo >= 500 {
				if k, e := seal.Current(l, 7, p); e != api.OK || k.Secret != "new" || k.Serial != 3 {
					t.Fatal("P4.8: the new key is not found:", p)
				}
			}
		}
	}
}

func TestMakeCheck(t *testing.T) {
	ring := example()
	k := ring[1]
	s := seal.Make(k, 300, "a", "bc")
	if s != api.Seal(hash.Of(300, "t", "a", "bc", "t")) || seal.Make(k, 5) != api.Seal(hash.Of(5, "t", "t")) {
		t.Error("P4.4: Make")
	}
	for i, x := range []struct {
		party, serial, tag int
		parts              []string
		s                  api.Seal
		at                 api.Period
		e                  api.Errno
	}{
		{1, 4, 300, []string{"a", "bc"}, s, at(50, 199), api.OK},
		{1, 4, 300 - 256, []string{"a", "bc"}, s, at(50, 199), api.OK},
		{2, 4, 300, []string{"a", "bc"}, s, at(50, 199), api.ErrName},
		{1, 3, 300, []string{"a", "bc"}, s, at(5, 3), api.ErrName},
		{1, 4, 300, []string{"a", "bc"}, s, at(49, 199), api.ErrTime},
		{1, 4, 300, []string{"a"}, s, at(50, 200), api.ErrTime},
		{1, 4, 300, []string{"a", "bc"}, s, at(60, 59), api.ErrTime},
		{1, 4, 301, []string{"a", "bc"}, s, at(50, 199), api.ErrSeal},
		{1, 4, 300, []string{"ab", "c"}, s, at(50, 199), api.ErrSeal},
		{1, 4, 300, []string{"a", "bc", ""}, s, at(50, 199), api.ErrSeal},
		{1, 1, 300, []string{"a", "bc"}, s, at(50, 99), api.ErrSeal},
		{1, 4, 300, []string{"a", "bc"}, api.Seal{}, at(50, 199), api.ErrSeal},
	} {
		if e := seal.Check(ring, x.party, x.serial, x.tag, x.parts, x.s, x.at); e != x.e {
			t.Error("P4.4: case", i, e)
		}
	}
	parts := make([]string, 2, 5)
	seal.Make(k, 1, parts...)
	if p := parts[:3]; p[2] != "" {
		t.Error("P4.4: Make has changed the memory of its argument")
	}
}

func ints(l ...int) string { return string(wire.Ints(l)) }

func records() (api.Stamp, api.Epoch, api.Lease, api.Head) {
	return api.Stamp{Addr: "acme/a", Variant: "v", Status: 200, Size: 3, Body: api.Digest{1}, Tags: "x,y", At: at(20, 30), Gate: 5, Serial: 6},
		api.Epoch{Num: 8, Prev: api.Digest{2}, At: at(21, 31), Purges: []api.Purge{{Kind: 1, What: "acme/a", Soft: true}, {Kind: 3, What: "acme:x"}}, Revoked: []api.Digest{{3}, {4}}, Serial: 9},
		api.Lease{Site: 3, Epoch: 7, Until: 100, Serial: 11},
		api.Head{Site: 3, Size: 12, Root: api.Digest{5}, At: at(22, 32), Serial: 13}
}

func TestParts(t *testing.T) {
	st, ep, le, he := records()
	if l := seal.StampParts(st); !slices.Equal(l, []string{"acme/a", "v", ints(200, 3, 20, 30, 5, 6), string(st.Body[:]), "x,y"}) {
		t.Errorf("P4.5: a stamp: %q", l)
	}
	want := []string{ints(8, 21, 31, 9, 2), string(ep.Prev[:]), ints(1, 1), "acme/a", ints(3, 0), "acme:x", string(ep.Revoked[0][:]), string(ep.Revoked[1][:])}
	if l := seal.EpochParts(ep); !slices.Equal(l, want) {
		t.Errorf("P4.5: an epoch: %q", l)
	}
	if l := seal.LeaseParts(le); !slices.Equal(l, []string{ints(3, 7, 100, 11)}) {
		t.Errorf("P4.5: a lease: %q", l)
	}
	if l := seal.HeadParts(he); !slices.Equal(l, []string{ints(3, 12, 22, 32, 13), string(he.Root[:])}) {
		t.Errorf("P4.5: a head: %q", l)
	}
}

func TestStamp(t *testing.T) {
	ring := example()
	st, _, _, _ := records()
	s := seal.SealStamp(ring[2], st)
	want := st
	want.Gate, want.Serial = 7, 2
	want.Seal = seal.Make(ring[2], api.TagStamp, seal.StampParts(want)...)
	if s != want || seal.CheckStamp(ring, s) != api.OK {
		t.Error("P4.6: SealStamp:", s)
	}
	for i, change := range []func(x *api.Stamp){
		func(x *api.Stamp) { x.Addr += "x" }, func(x *api.Stamp) { x.Variant += "x" }, func(x *api.Stamp) { x.Status++ },
		func(x *api.Stamp) { x.Size++ }, func(x *api.Stamp) { x.At.Lo++ }, func(x *api.Stamp) { x.At.Hi++ },
		func(x *api.Stamp) { x.Body[15]++ }, func(x *api.Stamp) { x.Tags = "x" }, func(x *api.Stamp) { x.Seal[0]++ },
	} {
		x := s
		change(&x)
		if e := seal.CheckStamp(ring, x); e != api.ErrSeal {
			t.Error("P4.7: a changed stamp is accepted:", i, e)
		}
	}
	for i, x := range []api.Stamp{{Gate: 8, Serial: 2, At: at(20, 30)}, {Gate: 7, Serial: 1, At: at(20, 30)}} {
		if e := seal.CheckStamp(ring, x); e != api.ErrName {
			t.Error("P4.6: no key:", i, e)
		}
	}
	s.At = at(9, 30)
	if e := seal.CheckStamp(ring, s); e != api.ErrTime {
		t.Error("P4.6: a key that does not count:", e)
	}
}

func TestEpoch(t *testing.T) {
	ring := example()
	_, ep, _, _ := records()
	s := seal.SealEpoch(ring[0], ep)
	want := ep
	want.Serial = 1
	if s.Serial != 1 || s.Seal != seal.Make(ring[0], api.TagEpoch, seal.EpochParts(want)...) || seal.CheckEpoch(ring, s) != api.OK {
		t.Error("P4.6: SealEpoch")
	}
	s.Purges[0].What, s.Revoked[0] = "x", api.Digest{}
	if ep.Purges[0].What != "acme/a" || ep.Revoked[0] != (api.Digest{3}) {
		t.Error("P4.6: the result shares memory with the argument")
	}
	for i, change := range []func(x *api.Epoch){
		func(x *api.Epoch) { x.Num++ }, func(x *api.Epoch) { x.At.Lo++ }, func(x *api.Epoch) { x.Prev[0]++ },
		func(x *api.Epoch) { x.Purges[1].Soft = true }, func(x *api.Epoch) { x.Purges[1].Kind = 2 }, func(x *api.Epoch) { x.Purges = x.Purges[:1] },
		func(x *api.Epoch) { x.Revoked[1][1]++ }, func(x *api.Epoch) { x.Revoked = nil },
	} {
		x := seal.SealEpoch(ring[0], ep)
		change(&x)
		if e := seal.CheckEpoch(ring, x); e != api.ErrSeal {
			t.Error("P4.7: a changed epoch is accepted:", i, e)
		}
	}
	if e := seal.CheckEpoch(ring[2:], seal.SealEpoch(ring[0], ep)); e != api.ErrName {
		t.Error("P4.6: no key of the authority:", e)
	}
	if e := seal.CheckEpoch(ring, seal.SealEpoch(ring[2], ep)); e != api.ErrName {
		t.Error("P4.6: a key of another party:", e)
	}
	ep.At = at(90, 100)
	if e := seal.CheckEpoch(ring, seal.SealEpoch(ring[0], ep)); e != api.ErrTime {
		t.Error("P4.6: a key that does not count:", e)
	}
}

func TestLeaseAndHead(t *testing.T) {
	ring := example()
	_, _, le, he := records()
	l := seal.SealLease(ring[0], le)
	want := le
	want.Serial = 1
	want.Seal = seal.Make(ring[0], api.TagLease, seal.LeaseParts(want)...)
	if l != want || seal.CheckLease(ring, l) != api.OK {
		t.Error("P4.6: SealLease")
	}
	for i, x := range []struct {
		change func(x *api.Lease)
		e      api.Errno
	}{
		{func(x *api.Lease) { x.Epoch++ }, api.ErrSeal}, {func(x *api.Lease) { x.Site++ }, api.ErrSeal}, {func(x *api.Lease) { x.Until-- }, api.ErrSeal},
		{func(x *api.Lease) { x.Until++ }, api.ErrTime}, {func(x *api.Lease) { x.Until = 0 }, api.ErrTime}, {func(x *api.Lease) { x.Until = 1 }, api.ErrSeal},
		{func(x *api.Lease) { x.Until = math.MinInt }, api.ErrTime}, {func(x *api.Lease) { x.Site = -1 }, api.ErrArg}, {func(x *api.Lease) { x.Site, x.Serial = api.MaxSites, 99 }, api.ErrArg},
		{func(x *api.Lease) { x.Site = api.MaxSites - 1 }, api.ErrSeal}, {func(x *api.Lease) { x.Serial = 2 }, api.ErrName},
	} {
		c := l
		x.change(&c)
		if e := seal.CheckLease(ring, c); e != x.e {
			t.Error("P4.6, P4.7: lease", i, e)
		}
	}
	h := seal.SealHead(ring[3], he)
	wanted := he
	wanted.Serial = 1
	wanted.Seal = seal.Make(ring[3], api.TagHead, seal.HeadParts(wanted)...)
	if h != wanted || seal.CheckHead(ring, h) != api.OK {
		t.Error("P4.6: SealHead")
	}
	for i, x := range []struct {
		change func(x *api.Head)
		e      api.Errno
	}{
		{func(x *api.Head) { x.Size++ }, api.ErrSeal}, {func(x *api.Head) { x.Root[2]++ }, api.ErrSeal}, {func(x *api.Head) { x.At.Lo-- }, api.ErrSeal},
		{func(x *api.Head) { x.Site = 4 }, api.ErrName}, {func(x *api.Head) { x.Serial = 2 }, api.ErrName}, {func(x *api.Head) { x.Site = -1 }, api.ErrArg},
		{func(x *api.Head) { x.Site = math.MaxInt }, api.ErrArg}, {func(x *api.Head) { x.At.Hi = 5 }, api.ErrTime}, {func(x *api.Head) { x.At.Hi = api.MaxTime }, api.ErrTime},
	} {
		c := h
		x.change(&c)
		if e := seal.CheckHead(ring, c); e != x.e {
			t.Error("P4.6, P4.7: head", i, e)
		}
	}
}
