package repair_test

import (
	"fmt"
	"math"
	"math/rand"
	"reflect"
	"slices"
	"strings"
	"testing"

	"weirgate/api"
	"weirgate/chunk"
	"weirgate/disk"
	"weirgate/merkle"
	"weirgate/origin"
	"weirgate/ranges"
	"weirgate/repair"
)

func span(from, to int) api.Span { return api.Span{From: from, To: to} }

func TestBlocks(t *testing.T) {
	m := api.Manifest{Size: 10, Block: 4}
	if !repair.Valid(m) || repair.Blocks(m) != 3 || repair.Span(m, 2) != span(8, 10) || repair.Span(m, 0) != span(0, 4) {
		t.Error("P37.1: the example")
	}
	for _, k := range []int{-1, 3, math.MaxInt, math.MinInt} {
		if s := repair.Span(m, k); s != (api.Span{}) {
			t.Error("P37.1: no block:", k, s)
		}
	}
	for i, x := range []struct {
		m  api.Manifest
		n  int
		ok bool
	}{
		{api.Manifest{Size: 0, Block: 1}, 0, true}, {api.Manifest{Size: api.MaxEntry, Block: 16}, 4096, true}, {api.Manifest{Size: api.MaxEntry, Block: api.MaxBlock}, 16, true}, {api.Manifest{Size: 4096, Block: 1}, 4096, true}, {api.Manifest{Size: 4097, Block: 1}, 0, false}, {api.Manifest{Size: api.MaxEntry, Block: 15}, 0, false}, {api.Manifest{Size: api.MaxEntry + 1, Block: 4096}, 0, false},
		{api.Manifest{Size: -1, Block: 4}, 0, false}, {api.Manifest{Size: 4, Block: 0}, 0, false}, {api.Manifest{Size: 4, Block: -1}, 0, false}, {api.Manifest{Size: 4, Block: api.MaxBlock + 1}, 0, false}, {api.Manifest{Size: 12, Block: 4}, 3, true}, {api.Manifest{Size: 4, Block: 4096}, 1, true},
	} {
		if repair.Valid(x.m) != x.ok || x.ok && repair.Blocks(x.m) != x.n {
			t.Error("P37.1:", i)
		}
	}
	text := "abcdefghij"
	l := repair.Leaves(text, 4)
	if !slices.Equal(l, []api.Digest{merkle.Leaf("abcd"), merkle.Leaf("efgh"), merkle.Leaf("ij")}) || len(repair.Leaves("", 4)) != 0 {
		t.Error("P37.2: Leaves")
	}
	m, e := repair.Make(text, 4)
	if e != api.OK || m != (api.Manifest{Size: 10, Block: 4, Root: merkle.Root(l)}) {
		t.Error("P37.2: Make:", m, e)
	}
	if m, e := repair.Make("", 4); e != api.OK || m.Root != merkle.Root(nil) {
		t.Error("P37.2: Make of nothing:", e)
	}
	long := strings.Repeat("x", api.MaxEntry+1)
	for i, x := range []struct {
		bytes    string
		block, k int
		e        api.Errno
	}{{text, 0, 0, 1}, {text, -1, 0, 1}, {text, api.MaxBlock + 1, 0, 1}, {long, 4096, 0, 2}, {long, 0, 0, 1}, {long[:4097], 1, 0, 2}, {long[:4097], 1, 9999, 2}, {text, 4, 3, 1}, {text, 4, -1, 1}, {"", 4, 0, 1}} {
		if p, e := repair.Proof(x.bytes, x.block, x.k); e != x.e || p != nil {
			t.Error("P37.2: Proof:", i, e)
		}
		if m, e := repair.Make(x.bytes, x.block); i < 7 && (e != x.e || m != (api.Manifest{})) {
			t.Error("P37.2: Make:", i, e)
		}
	}
}

func TestCheck(t *testing.T) {
	r := rand.New(rand.NewSource(1))
	for range 300 {
		text := "the quick brown fox jumps over 1 lazy dog; pack my box 23456"[:r.Intn(60)]
		block := 1 + r.Intn(20)
		m, _ := repair.Make(text, block)
		for k := range repair.Blocks(m) {
			s := repair.Span(m, k)
			piece := text[s.From:s.To]
			path, e := repair.Proof(text, block, k)
			want, _ := merkle.Inclusion(repair.Leaves(text, block), k)
			if e != api.OK || !slices.Equal(path, want) || repair.Check(m, k, piece, path) != api.OK {
				t.Fatal("P37.2, P37.3, P37.9:", text, block, k)
			}
			bad := []byte(piece)
			bad[r.Intn(len(bad))]++
			if repair.Check(m, k, string(bad), path) != api.ErrSeal || repair.Check(m, k, piece+"x", path) != api.ErrSeal || repair.Check(m, k, piece[1:], path) != api.ErrSeal || repair.Check(m, k, piece, append(path, api.Digest{})) != api.ErrSeal {
				t.Fatal("P37.3: another piece:", text, block, k)
			}
			if repair.Blocks(m) > 1 && repair.Check(m, (k+1)%repair.Blocks(m), piece, path) == api.OK {
				t.Fatal("P37.3: another block:", text, block, k)
			}
		}
		if repair.Check(m, repair.Blocks(m), "", nil) != api.ErrArg || repair.Check(m, -1, "", nil) != api.ErrArg {
			t.Fatal("P37.3: no block")
		}
	}
}

func TestDamaged(t *testing.T) {
	r := rand.New(rand.NewSource(2))
	for range 2000 {
		text := make([]byte, r.Intn(30))
		for i := range text {
			text[i] = byte(r.Intn(256))
		}
		block := 1 + r.Intn(8)
		m, _ := repair.Make(string(text), block)
		leaves := repair.Leaves(string(text), block)
		bytes := slices.Clone(text)
		for range r.Intn(3) {
			if len(bytes) > 0 {
				bytes[r.Intn(len(bytes))] ^= 1
			}
		}
		var have []api.Span
		for range r.Intn(4) {
			from := r.Intn(len(text) + 1)
			have = append(have, span(from, from+r.Intn(len(text)-from+1)))
		}
		have = ranges.Of(have...)
		var want []api.Span
		for k := range repair.Blocks(m) {
			s := repair.Span(m, k)
			if ranges.Covers(have, s) && string(text[s.From:s.To]) != string(bytes[s.From:s.To]) {
				want = append(want, s)
			}
		}
		got, e := repair.Damaged(m, leaves, string(bytes), have)
		if e != api.OK || !slices.Equal(got, ranges.Of(want...)) {
			t.Fatal("P37.4, P37.9:", text, bytes, have, got)
		}
	}
	m, _ := repair.Make("abcdefghij", 4)
	l := repair.Leaves("abcdefghij", 4)
	all := []api.Span{span(0, 10)}
	if got, e := repair.Damaged(m, l, "abXdefghiY", all); e != api.OK || !slices.Equal(got, []api.Span{span(0, 4), span(8, 10)}) {
		t.Error("P37.4:", got, e)
	}
	if got, e := repair.Damaged(m, l, "XbcdYfghij", all); e != api.OK || !slices.Equal(got, []api.Span{span(0, 8)}) {
		t.Error("P37.4: neighbours:", got, e)
	}
	for i, x := range []struct {
		leaves []api.Digest
		bytes  string
		have   []api.Span
		e      api.Errno
	}{{l[:2], "abcdefghij", all, 1}, {append(slices.Clone(l), l[0]), "abcdefghij", all, 1}, {l, "abcdefghi", all, 1}, {l, "abcdefghijk", all, 1}, {l, "abcdefghij", []api.Span{span(0, 11)}, 1}, {l, "abcdefghij", []api.Span{span(3, 3)}, 1}, {l, "abcdefghij", []api.Span{span(-1, 3)}, 1}, {[]api.Digest{l[1], l[0], l[2]}, "abcdefghij", all, 8}, {[]api.Digest{l[1], l[0], l[2]}, "abcdefghi", all, 1}} {
		if got, e := repair.Damaged(m, x.leaves, x.bytes, x.have); e != x.e || got != nil {
			t.Error("P37.4:", i, e)
		}
	}
}

// slowAsk fills one gap after the other.
func slowAsk(l []api.Span, most int) []api.Span {
	l = slices.Clone(l)
	for len(l) > most {
		best := 0
		for i := range l[1:] {
			if l[i+1].From-l[i].To < l[best+1].From-l[best].To {
				best = i
			}
		}
		l[best].To = l[best+1].To
		l = slices.Delete(l, best+1, best+2)
	}
	return l
}

func TestAsk(t *testing.T) {
	if l, e := repair.Ask([]api.Span{span(0, 2), span(5, 6), span(8, 9)}, 2); e != api.OK || !slices.Equal(l, []api.Span{span(0, 2), span(5, 9)}) {
		t.Error("P37.5: the example:", l, e)
	}
	r := rand.New(rand.NewSource(3))
	for range 300 {
		var all []api.Span
		for range r.Intn(8) {
			from := r.Intn(9)
			all = append(all, span(from, from+r.Intn(3)))
		}
		missing := ranges.Of(all...)
		old := slices.Clone(missing)
		most := 1 + r.Intn(5)
		got, e := repair.Ask(missing, most)
		if e != api.OK || !slices.Equal(got, slowAsk(missing, most)) || !ranges.Valid(got) || !slices.Equal(missing, old) {
			t.Fatal("P37.5:", missing, most, got)
		}
		for set := range 1 << 11 { // all sets of bytes
			var l []api.Span
			for i := range 11 {
				if set>>i&1 == 1 {
					l = append(l, span(i, i+1))
				}
			}
			l = ranges.Of(l...)
			if len(l) <= most && ranges.Total(l) < ranges.Total(got) && len(ranges.Minus(missing, l)) == 0 {
				t.Fatal("P37.10:", missing, most, got, l)
			}
		}
		if len(got) > 0 {
			got[0].From = -9
			if !slices.Equal(missing, old) {
				t.Fatal("P37.5: memory is shared")
			}
		}
	}
	for i, x := range []struct {
		l    []api.Span
		most int
	}{{[]api.Span{span(3, 3)}, 1}, {[]api.Span{span(3, 4), span(4, 5)}, 1}, {nil, 0}, {nil, -1}} {
		if l, e := repair.Ask(x.l, x.most); e != api.ErrArg || l != nil {
			t.Error("P37.5:", i, e)
		}
	}
	if l, e := repair.Ask(nil, 1); e != api.OK || len(l) != 0 {
		t.Error("P37.5: nothing is missing:", l, e)
	}
}

// slowDiff goes by the words of the chapter.
func slowDiff(old, new string, block int) []api.PatchOp {
	var ops []api.PatchOp
	for at := 0; at < len(new); {
		found := -1
		for k := 0; (k+1)*block <= len(old) && found < 0; k++ {
			if strings.HasPrefix(new[at:], old[k*block:(k+1)*block]) {
				found = k * block
			}
		}
		last := len(ops) - 1
		switch {
		case found >= 0 && last >= 0 && ops[last].Bytes == "" && ops[last].To == found:
			ops[last].To = found + block
		case found >= 0:
			ops = append(ops, api.PatchOp{From: found, To: found + block})
		case last >= 0 && ops[last].Bytes != "":
			ops[last].Bytes += new[at : at+1]
		default:
			ops = append(ops, api.PatchOp{Bytes: new[at : at+1]})
		}
		if found >= 0 {
			at += block
		} else {
			at++
		}
	}
	return ops
}

func TestDiff(t *testing.T) {
	p, e := repair.Diff("abcdefgh", "abcdXefgh", 4)
	want := api.Patch{Base: origin.Digest("abcdefgh"), Body: origin.Digest("abcdXefgh"), Size: 9, Ops: []api.PatchOp{{From: 0, To: 4}, {Bytes: "X"}, {From: 4, To: 8}}}
	if e != api.OK || !reflect.DeepEqual(p, want) || repair.Weight(p) != 1 {
		t.Error("P37.6: the example:", p, e)
	}
	if s, e := repair.Apply("abcdefgX", p); s != "" || e != api.ErrSeal {
		t.Error("P37.7: the example:", e)
	}
	r := rand.New(rand.NewSource(4))
	random := func() string {
		var b strings.Builder
		for range r.Intn(8) {
			b.WriteString([]string{"ab", "ba", "a", "b", "abab", "c"}[r.Intn(6)])
		}
		return b.String()
	}
	for range 5000 {
		old, new := random(), random()
		block := 1 + r.Intn(4)
		p, e := repair.Diff(old, new, block)
		if e != api.OK || !reflect.DeepEqual(p.Ops, slowDiff(old, new, block)) || p.Size != len(new) || p.Base != origin.Digest(old) || p.Body != origin.Digest(new) {
			t.Fatal("P37.6:", old, new, block, p)
		}
		if s, e := repair.Apply(old, p); s != new || e != api.OK || repair.Weight(p) > p.Size {
			t.Fatal("P37.11:", old, new, block, p, s, e)
		}
		if self, _ := repair.Diff(old, old, block); len(old)%block == 0 && repair.Weight(self) != 0 {
			t.Fatal("P37.11: to itself:", old, block, self)
		}
	}
	long := strings.Repeat("x", api.MaxEntry+1)
	for i, x := range []struct {
		old, new string
		block    int
		e        api.Errno
	}{{"a", "b", 0, 1}, {"a", "b", -1, 1}, {"a", "b", api.MaxBlock + 1, 1}, {long, "b", 4, 2}, {"a", long, 4, 2}, {long, "b", 0, 1}} {
		if p, e := repair.Diff(x.old, x.new, x.block); e != x.e || !reflect.DeepEqual(p, api.Patch{}) {
			t.Error("P37.6:", i, e)
		}
	}
	if p, e := repair.Diff(long[1:], "y"+long[2:], api.MaxBlock); e != api.OK || repair.Weight(p) != 4096 {
		t.Error("P37.6: the greatest objects:", repair.Weight(p), e)
	}
	if p, e := repair.Diff("", "", 4); e != api.OK || len(p.Ops) != 0 {
		t.Error("P37.6: nothing:", p, e)
	}
}

func TestApply(t *testing.T) {
	good, _ := repair.Diff("abcdefgh", "abcdXefghYY", 4)
	huge := api.Patch{Base: origin.Digest("abcdefgh"), Size: api.MaxEntry + 8, Ops: slices.Repeat([]api.PatchOp{{From: 0, To: 8}}, api.MaxEntry/8+1)}
	for i, x := range []struct {
		change func(p *api.Patch)
		e      api.Errno
	}{
		{func(p *api.Patch) {}, 0}, {func(p *api.Patch) { p.Base[0]++; p.Size = 3 }, 8}, {func(p *api.Patch) { p.Ops[0].From = -1 }, 3}, {func(p *api.Patch) { p.Ops[0].To = 9 }, 3}, {func(p *api.Patch) { p.Ops[0].From = 4 }, 3}, {func(p *api.Patch) { p.Ops[0].To = 0 }, 3}, {func(p *api.Patch) { p.Ops[1].From = 1 }, 3}, {func(p *api.Patch) { p.Ops[1].To = 1 }, 3}, {func(p *api.Patch) { p.Ops[1].Bytes = "" }, 3},
		{func(p *api.Patch) { p.Size = 10 }, 3}, {func(p *api.Patch) { p.Size = -1 }, 3}, {func(p *api.Patch) { p.Ops = p.Ops[:3] }, 3}, {func(p *api.Patch) { p.Body[0]++ }, 8}, {func(p *api.Patch) { p.Ops[1].Bytes = "Z" }, 8}, {func(p *api.Patch) { *p = huge }, 3}, {func(p *api.Patch) { p.Ops[0].From, p.Ops[0].To = math.MinInt, math.MaxInt }, 3},
	} {
		p := good
		p.Ops = slices.Clone(good.Ops)
		x.change(&p)
		s, e := repair.Apply("abcdefgh", p)
		if e != x.e || (e == api.OK) != (s == "abcdXefghYY") || e != api.OK && s != "" {
			t.Error("P37.7:", i, s, e)
		}
	}
}

func TestScrub(t *testing.T) {
	base := disk.New(3 * api.SegSectors)
	l, _ := chunk.Open(base)
	for i := range 20 {
		l.Append(fmt.Sprint("k", i), strings.Repeat("z", 15*i))
	}
	if good, bad, e := repair.Scrub(l); e != api.OK || len(good) != 20 || len(bad) != 0 {
		t.Error("P37.8:", len(good), len(bad), e)
	}
	r := rand.New(rand.NewSource(5))
	found := 0
	for i := range 800 {
		d := base.Crash(nil)
		l, _ := chunk.Open(d)
		if i%2 == 0 {
			d.Rot(r.Intn(2 * api.SegSectors))
		} else {
			d.Flip(r.Intn(2*api.SegSectors), r.Intn(512))
		}
		good, bad, e := repair.Scrub(l)
		var wantGood, wantBad []api.Place
		for _, c := range l.List() {
			if _, _, e := l.Read(c.At); e == api.OK {
				wantGood = append(wantGood, c.At)
			} else {
				wantBad = append(wantBad, c.At)
			}
		}
		found += len(bad)
		if e != api.OK || !slices.Equal(good, wantGood) || !slices.Equal(bad, wantBad) {
			t.Fatal("P37.8, P37.12:", good, bad, e)
		}
	}
	if found == 0 {
		t.Error("nothing was damaged")
	}
	base.Arm(0)
	base.Sync()
	if good, bad, e := repair.Scrub(l); e != api.ErrDown || good != nil || bad != nil {
		t.Error("P37.8: the disk is down:", e)
	}
}
