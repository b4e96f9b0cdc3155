package merkle_test

import (
	"math"
	"slices"
	"strconv"
	"testing"

	"weirgate/api"
	"weirgate/hash"
	"weirgate/merkle"
)

func leaves(n int) []api.Digest {
	l := make([]api.Digest, n)
	for i := range l {
		l[i] = merkle.Leaf(strconv.Itoa(i))
	}
	return l
}

// split is the greatest power of 2 that is less than n.
func split(n int) int {
	k := 1
	for 2*k < n {
		k *= 2
	}
	return k
}

func slowRoot(l []api.Digest) api.Digest {
	if len(l) == 0 {
		return hash.Of(32)
	}
	if len(l) == 1 {
		return l[0]
	}
	k := split(len(l))
	return merkle.Node(slowRoot(l[:k]), slowRoot(l[k:]))
}

func slowInclusion(l []api.Digest, i int) []api.Digest {
	if len(l) == 1 {
		return nil
	}
	k := split(len(l))
	if i < k {
		return append(slowInclusion(l[:k], i), slowRoot(l[k:]))
	}
	return append(slowInclusion(l[k:], i-k), slowRoot(l[:k]))
}

func slowConsistency(l []api.Digest, m int, mark bool) []api.Digest {
	if m == len(l) {
		if mark {
			return nil
		}
		return []api.Digest{slowRoot(l)}
	}
	k := split(len(l))
	if m <= k {
		return append(slowConsistency(l[:k], m, mark), slowRoot(l[k:]))
	}
	return append(slowConsistency(l[k:], m-k, false), slowRoot(l[:k]))
}

// slowMany has true where a position is wanted.
func slowMany(l []api.Digest, want []bool) []api.Digest {
	if !slices.Contains(want, true) {
		return []api.Digest{slowRoot(l)}
	}
	if len(l) == 1 {
		return nil
	}
	k := split(len(l))
	return append(slowMany(l[:k], want[:k]), slowMany(l[k:], want[k:])...)
}

// bad returns paths that are not the given one.
func bad(path []api.Digest) [][]api.Digest {
	l := [][]api.Digest{append(slices.Clone(path), api.Digest{}), append([]api.Digest{{7}}, path...)}
	for i := range path {
		other := slices.Clone(path)
		other[i][3] ^= 1
		l = append(l, other, path[:i], slices.Delete(slices.Clone(path), i, i+1))
	}
	return l
}

func TestRoot(t *testing.T) {
	a, b, c := api.Digest{1}, api.Digest{2}, api.Digest{3}
	if merkle.Leaf("x") != hash.Of(30, "x") || merkle.Node(a, b) != hash.Of(31, string(a[:]), string(b[:])) || merkle.Node(a, b) == merkle.Node(b, a) {
		t.Error("P3.1: leaves and nodes")
	}
	if merkle.Root(nil) != hash.Of(32) || merkle.Root([]api.Digest{a}) != a || merkle.Root([]api.Digest{a, b, c}) != merkle.Node(merkle.Node(a, b), c) {
		t.Error("P3.1: small lists")
	}
	for n := range 70 {
		l := leaves(n)
		if merkle.Root(l) != slowRoot(l) {
			t.Error("P3.1: the root of", n)
		}
	}
}

func TestInclusion(t *testing.T) {
	a, b, c := api.Digest{1}, api.Digest{2}, api.Digest{3}
	if p, e := merkle.Inclusion([]api.Digest{a, b, c}, 0); !slices.Equal(p, []api.Digest{b, c}) || e != api.OK {
		t.Error("P3.2: the example")
	}
	if p, e := merkle.Inclusion([]api.Digest{a, b, c}, 2); !slices.Equal(p, []api.Digest{merkle.Node(a, b)}) || e != api.OK {
		t.Error("P3.2: the example")
	}
	for n := range 20 {
		l := leaves(n)
		root := merkle.Root(l)
		for _, i := range []int{-1, n, math.MaxInt, math.MinInt} {
			if p, e := merkle.Inclusion(l, i); len(p) != 0 || e != api.ErrArg || merkle.CheckInclusion(root, i, n, nil, root) {
				t.Error("P3.2: no position:", n, i)
			}
		}
		for i := range n {
			p, e := merkle.Inclusion(l, i)
			if !slices.Equal(p, slowInclusion(l, i)) || e != api.OK || !merkle.CheckInclusion(l[i], i, n, p, root) {
				t.Error("P3.2, P3.6:", n, i)
			}
			for _, q := range bad(p) {
				if merkle.CheckInclusion(l[i], i, n, q, root) {
					t.Error("P3.2, P3.7: a bad path:", n, i)
				}
			}
			other := merkle.Leaf("other")
			if merkle.CheckInclusion(other, i, n, p, root) || merkle.CheckInclusion(l[i], i, n, p, other) || n > 1 && merkle.CheckInclusion(l[i], (i+1)%n, n, p, root) {
				t.Error("P3.2, P3.7: another leaf, place or root:", n, i)
			}
		}
	}
	d := api.Digest{5}
	path := make([]api.Digest, 40)
	root := d
	for range path {
		root = merkle.Node(root, api.Digest{})
	}
	if !merkle.CheckInclusion(d, 0, api.MaxLeaves, path, root) || merkle.CheckInclusion(d, 0, api.MaxLeaves+1, append(path, api.Digest{}), merkle.Node(root, api.Digest{})) {
		t.Error("P3.2: the greatest trees")
	}
	if merkle.CheckInclusion(d, 0, 0, nil, d) || merkle.CheckInclusion(d, 0, -1, nil, d) || merkle.CheckInclusion(d, 0, math.MaxInt, nil, d) {
		t.Error("P3.2: n is out of bounds")
	}
}

func TestConsistency(t *testing.T) {
	a, b, c := api.Digest{1}, api.Digest{2}, api.Digest{3}
	for m, want := range [][]api.Digest{nil, {b, c}, {c}, nil} {
		if p, e := merkle.Consistency([]api.Digest{a, b, c}, m); !slices.Equal(p, want) || e != api.OK {
			t.Error("P3.3: the example:", m)
		}
	}
	for n := range 20 {
		l := leaves(n)
		root := merkle.Root(l)
		for _, m := range []int{-1, n + 1, math.MaxInt, math.MinInt} {
			if p, e := merkle.Consistency(l, m); len(p) != 0 || e != api.ErrArg || merkle.CheckConsistency(m, n, root, root, nil) {
				t.Error("P3.3: no size:", n, m)
			}
		}
		for m := range n + 1 {
			old := merkle.Root(l[:m])
			p, e := merkle.Consistency(l, m)
			if e != api.OK || !merkle.CheckConsistency(m, n, old, root, p) {
				t.Error("P3.3, P3.8:", n, m)
			}
			if m > 0 && m < n && !slices.Equal(p, slowConsistency(l, m, true)) || (m == 0 || m == n) && len(p) != 0 {
				t.Error("P3.3: the proof:", n, m)
			}
			for _, q := range bad(p) {
				if merkle.CheckConsistency(m, n, old, root, q) {
					t.Error("P3.8: a bad path:", n, m)
				}
			}
			other := merkle.Leaf("other")
			if merkle.CheckConsistency(m, n, other, root, p) || merkle.CheckConsistency(m, n, old, other, p) != (m == 0) {
				t.Error("P3.8: another root:", n, m)
			}
		}
	}
	d := merkle.Root(nil)
	if !merkle.CheckConsistency(0, api.MaxLeaves, d, api.Digest{}, nil) || merkle.CheckConsistency(0, api.MaxLeaves+1, d, d, nil) || merkle.CheckConsistency(5, api.MaxLeaves+1, d, d, nil) {
		t.Error("P3.3: the greatest trees")
	}
	if !merkle.CheckConsistency(9, 9, api.Digest{1}, api.Digest{1}, nil) {
		t.Error("P3.3: equal sizes")
	}
}

func TestMany(t *testing.T) {
	a, b, c := api.Digest{1}, api.Digest{2}, api.Digest{3}
	if p, e := merkle.Many([]api.Digest{a, b, c}, []int{0, 2}); !slices.Equal(p, []api.Digest{b}) || e != api.OK {
		t.Error("P3.4: the example")
	}
	for n := range 9 {
		l := leaves(n)
		root := merkle.Root(l)
		for set := range 1 << n {
			var places []int
			var found []api.Digest
			want := make([]bool, n)
			for i := range n {
				if set>>i&1 == 1 {
					places, found, want[i] = append(places, i), append(found, l[i]), true
				}
			}
			p, e := merkle.Many(l, places)
			if e != api.OK || n > 0 && !slices.Equal(p, slowMany(l, want)) || n == 0 && len(p) != 0 || !merkle.CheckMany(n, places, found, p, root) {
				t.Fatal("P3.4, P3.8:", n, places)
			}
			for _, q := range bad(p) {
				if merkle.CheckMany(n, places, found, q, root) {
					t.Fatal("P3.4: a bad path:", n, places)
				}
			}
			for _, q := range bad(found) {
				if merkle.CheckMany(n, places, q, p, root) {
					t.Fatal("P3.4: other elements:", n, places)
				}
			}
			if merkle.CheckMany(n, places, found, p, api.Digest{9}) {
				t.Fatal("P3.4: another root:", n, places)
			}
		}
		for _, places := range [][]int{{-1}, {n}, {0, 0}, {1, 0}, {math.MaxInt}} {
			if p, e := merkle.Many(l, places); e != api.ErrArg || len(p) != 0 {
				t.Error("P3.4: wrong places:", n, places)
			}
			if merkle.CheckMany(n, places, make([]api.Digest, len(places)), nil, root) {
				t.Error("P3.4: wrong places:", n, places)
			}
		}
	}
	d := api.Digest{4}
	if !merkle.CheckMany(api.MaxLeaves, nil, nil, []api.Digest{d}, d) || merkle.CheckMany(api.MaxLeaves+1, nil, nil, []api.Digest{d}, d) || merkle.CheckMany(-1, nil, nil, []api.Digest{d}, d) || merkle.CheckMany(0, nil, nil, nil, d) {
		t.Error("P3.4: bounds of n")
	}
	path := make([]api.Digest, 40)
	root := d
	for range path {
		root = merkle.Node(root, api.Digest{})
	}
	if !merkle.CheckMany(api.MaxLeaves, []int{0}, []api.Digest{d}, path, root) {
		t.Error("P3.4: one of very many elements")
	}
}

func TestPeaks(t *testing.T) {
	a, b, c := api.Digest{1}, api.Digest{2}, api.Digest{3}
	var p api.Peaks
	for _, d := range []api.Digest{a, b, c} {
		p, _ = merkle.Append(p, d)
	}
	if p.Size != 3 || !slices.Equal(p.Tops, []api.Digest{merkle.Node(a, b), c}) {
		t.Error("P3.5: the example")
	}
	l := leaves(70)
	p = api.Peaks{}
	for n := range l {
		if d, e := merkle.Top(p); d != slowRoot(l[:n]) || e != api.OK {
			t.Error("P3.5, P3.6: Top of", n)
		}
		before := api.Peaks{Size: p.Size, Tops: slices.Clone(p.Tops)}
		q, e := merkle.Append(p, l[n])
		if e != api.OK || q.Size != n+1 || !slices.Equal(p.Tops, before.Tops) {
			t.Error("P3.5: Append to", n)
		}
		at := 0
		for k, top := 64, 0; k > 0; k /= 2 {
			if q.Size&k != 0 {
				if q.Tops[top] != slowRoot(l[at:at+k]) {
					t.Error("P3.5: the tops of", q.Size)
				}
				top, at = top+1, at+k
			}
		}
		other, _ := merkle.Append(p, merkle.Leaf("other"))
		if other.Tops[len(other.Tops)-1] == q.Tops[len(q.Tops)-1] {
			t.Error("P3.5: results share memory")
		}
		p = q
	}
	for _, p := range []api.Peaks{{Size: -1}, {Size: 1}, {Size: 0, Tops: l[:1]}, {Size: 3, Tops: l[:1]}, {Size: 3, Tops: l[:3]}, {Size: api.MaxLeaves + 1, Tops: l[:2]}, {Size: math.MinInt, Tops: l[:1]}, {Size: 2 * api.MaxLeaves, Tops: l[:1]}} {
		if q, e := merkle.Append(p, a); e != api.ErrForm || q.Size != 0 || q.Tops != nil {
			t.Error("P3.5: Append to peaks that are not well-formed:", p.Size)
		}
		if d, e := merkle.Top(p); e != api.ErrForm || d != (api.Digest{}) {
			t.Error("P3.5: Top of peaks that are not well-formed:", p.Size)
		}
	}
	full := api.Peaks{Size: api.MaxLeaves, Tops: []api.Digest{a}}
	if q, e := merkle.Append(full, a); e != api.ErrLimit || q.Size != 0 {
		t.Error("P3.5: the greatest size")
	}
	if d, e := merkle.Top(full); d != a || e != api.OK {
		t.Error("P3.5: Top of the greatest size")
	}
	almost := api.Peaks{Size: api.MaxLeaves - 1, Tops: make([]api.Digest, 40)}
	if q, e := merkle.Append(almost, a); e != api.OK || q.Size != api.MaxLeaves || len(q.Tops) != 1 {
		t.Error("P3.5: up to the greatest size")
	}
}

func TestArgumentsStay(t *testing.T) {
	l := leaves(7)
	old := slices.Clone(l)
	places := []int{1, 3, 4}
	p, _ := merkle.Inclusion(l, 3)
	q, _ := merkle.Consistency(l, 3)
	r, _ := merkle.Many(l, places)
	for _, x := range [][]api.Digest{p, q, r} {
		clear(x)
	}
	if !slices.Equal(l, old) || !slices.Equal(places, []int{1, 3, 4}) {
		t.Error("arguments were changed, or results share their memory")
	}
}
