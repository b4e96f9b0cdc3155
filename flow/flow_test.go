package flow_test

import (
	"math"
	"math/rand"
	"reflect"
	"slices"
	"testing"

	"weirgate/api"
	"weirgate/flow"
)

func arc(from, to, cap int) api.Arc { return api.Arc{From: from, To: to, Cap: cap} }

func net(nodes int, arcs ...api.Arc) api.Net { return api.Net{Nodes: nodes, Arcs: arcs} }

func example() api.Net {
	return net(4, arc(0, 1, 3), arc(0, 2, 2), arc(1, 2, 5), arc(1, 3, 2), arc(2, 3, 3))
}

func randomNet(r *rand.Rand) api.Net {
	n := net(2 + r.Intn(5))
	for range r.Intn(14) {
		from := r.Intn(n.Nodes)
		n.Arcs = append(n.Arcs, api.Arc{From: from, To: (from + 1 + r.Intn(n.Nodes-1)) % n.Nodes, Cap: r.Intn(6), Cost: r.Intn(9) - 4})
	}
	return n
}

func cuts(n api.Net, visit func(cut []bool)) {
	for set := range 1 << n.Nodes {
		cut := make([]bool, n.Nodes)
		for i := range cut {
			cut[i] = set>>i&1 == 1
		}
		visit(cut)
	}
}

func TestValid(t *testing.T) {
	for i, n := range []api.Net{net(1), example(), net(2, api.Arc{From: 0, To: 1, Cap: api.MaxCap, Cost: math.MinInt}), net(api.MaxNodes, arc(255, 0, 0)), net(2, slices.Repeat([]api.Arc{arc(0, 1, 1)}, api.MaxArcs)...)} {
		if !flow.Valid(n) {
			t.Error("P10.1: a valid network:", i)
		}
	}
	for i, n := range []api.Net{{}, net(-1), net(api.MaxNodes + 1), net(2, arc(0, 0, 1)), net(2, arc(0, 2, 1)), net(2, arc(-1, 0, 1)), net(2, arc(0, 1, -1)), net(2, arc(0, 1, api.MaxCap+1)), net(2, arc(math.MaxInt, 1, 1)), net(2, slices.Repeat([]api.Arc{arc(0, 1, 1)}, api.MaxArcs+1)...)} {
		if flow.Valid(n) {
			t.Error("P10.1: a network that is not valid:", i)
		}
	}
}

func TestCheck(t *testing.T) {
	n := example()
	for i, x := range []struct {
		from, to int
		flow     []int
		e        api.Errno
	}{
		{0, 3, []int{3, 2, 1, 2, 3}, 0}, {0, 3, []int{0, 0, 0, 0, 0}, 0}, {0, 3, []int{1, 0, 0, 1, 0}, 0}, {0, 1, []int{3, 0, 0, 0, 0}, 0}, {1, 3, []int{0, 0, 0, 2, 0}, 0},
		{-1, 3, []int{9, 9}, 1}, {0, 4, nil, 1}, {2, 2, make([]int, 5), 1}, {0, 3, make([]int, 4), 1}, {0, 3, make([]int, 6), 1}, {math.MinInt, 3, make([]int, 5), 1},
		{0, 3, []int{4, 0, 0, 0, 0}, 101}, {0, 3, []int{1, 0, 0, -1, 0}, 101}, {0, 3, []int{1, math.MaxInt, 0, 0, 0}, 101}, {0, 3, []int{1, 0, 0, 3, 0}, 101},
		{0, 3, []int{1, 0, 0, 0, 0}, 100}, {0, 3, []int{0, 0, 0, 1, 0}, 100}, {3, 0, []int{1, 0, 0, 1, 0}, 100}, {0, 2, []int{1, 0, 0, 1, 0}, 100},
	} {
		if e := flow.Check(n, x.from, x.to, x.flow); e != x.e {
			t.Error("P10.1: Check:", i, e)
		}
	}
	if flow.Value(n, 0, []int{3, 2, 1, 2, 3}) != 5 || flow.Value(n, 3, []int{3, 2, 1, 2, 3}) != -5 || flow.Value(n, 1, []int{3, 2, 1, 2, 3}) != 0 || flow.Value(n, 2, []int{1, 1, 1, 1, 1}) != -1 {
		t.Error("P10.1: Value")
	}
	rest := flow.Rest(net(3, api.Arc{From: 0, To: 1, Cap: 5, Cost: 7}, api.Arc{From: 2, To: 1, Cap: 4, Cost: -2}), []int{2, 4})
	want := net(3, api.Arc{From: 0, To: 1, Cap: 3, Cost: 7}, api.Arc{From: 1, To: 0, Cap: 2, Cost: -7}, api.Arc{From: 2, To: 1, Cap: 0, Cost: -2}, api.Arc{From: 1, To: 2, Cap: 4, Cost: 2})
	if !reflect.DeepEqual(rest, want) {
		t.Error("P10.2: Rest:", rest)
	}
}

// slowMost does what P10.3 says, step by step, with Rest.
func slowMost(n api.Net, from, to int) ([]int, []bool) {
	f := make([]int, len(n.Arcs))
	for {
		rest := flow.Rest(n, f)
		found, by := make([]bool, n.Nodes), make([]int, n.Nodes)
		found[from] = true
		for queue := []int{from}; len(queue) > 0; queue = queue[1:] {
			for i, a := range rest.Arcs {
				if a.From == queue[0] && a.Cap > 0 && !found[a.To] {
					found[a.To], by[a.To] = true, i
					queue = append(queue, a.To)
				}
			}
		}
		if !found[to] {
			return f, found
		}
		least := math.MaxInt
		for x := to; x != from; x = rest.Arcs[by[x]].From {
			least = min(least, rest.Arcs[by[x]].Cap)
		}
		for x := to; x != from; x = rest.Arcs[by[x]].From {
			if by[x]%2 == 0 {
				f[by[x]/2] += least
			} else {
				f[by[x]/2] -= least
			}
		}
	}
}

func TestMost(t *testing.T) {
	f, cut, e := flow.Most(example(), 0, 3)
	if e != api.OK || !slices.Equal(f, []int{3, 2, 1, 2, 3}) || !slices.Equal(cut, []bool{true, false, false, false}) {
		t.Error("P10.3: the example:", f, cut, e)
	}
	if flow.CutValue(example(), []bool{true, true, false, false}) != 9 {
		t.Error("P10.4: the example")
	}
	for _, x := range [][2]int{{-1, 0}, {0, 4}, {1, 1}, {math.MaxInt, 0}} {
		if f, cut, e := flow.Most(example(), x[0], x[1]); f != nil || cut != nil || e != api.ErrArg {
			t.Error("P10.3: no nodes:", x, e)
		}
	}
	r := rand.New(rand.NewSource(1))
	for range 3000 {
		n := randomNet(r)
		from := r.Intn(n.Nodes)
		to := (from + 1 + r.Intn(n.Nodes-1)) % n.Nodes
		old := slices.Clone(n.Arcs)
		f, cut, e := flow.Most(n, from, to)
		wantF, wantCut := slowMost(n, from, to)
		if e != api.OK || !slices.Equal(f, wantF) || !slices.Equal(cut, wantCut) || !slices.Equal(old, n.Arcs) {
			t.Fatal("P10.3:", n, from, to, f, cut)
		}
		if flow.Check(n, from, to, f) != api.OK || !flow.Proves(n, from, to, f, cut) {
			t.Fatal("P10.7: no proof:", n, from, to, f, cut)
		}
		value := flow.Value(n, from, f)
		cuts(n, func(c []bool) {
			sum := 0
			for _, a := range n.Arcs {
				if c[a.From] && !c[a.To] {
					sum += a.Cap
				}
			}
			if flow.CutValue(n, c) != sum {
				t.Fatal("P10.4: CutValue:", n, c)
			}
			if c[from] && !c[to] && sum < value || flow.Proves(n, from, to, f, c) != (c[from] && !c[to] && sum == value) {
				t.Fatal("P10.4, P10.7: Proves:", n, f, c)
			}
		})
		if flow.Proves(n, from, to, f, cut[1:]) || flow.Proves(n, from, from, f, cut) || flow.Proves(n, to, from, f, cut) || flow.Proves(n, from, n.Nodes, f, cut) || flow.Proves(n, from, to, append(f, 0), cut) {
			t.Fatal("P10.4: Proves accepts what is wrong:", n)
		}
		if value > 0 && flow.Proves(n, from, to, make([]int, len(f)), cut) {
			t.Fatal("P10.4: Proves accepts a lesser flow:", n)
		}
		wrong := slices.Clone(f)
		for i, a := range n.Arcs {
			if a.From != from && a.To != from && a.To != to && f[i] > 0 {
				wrong[i]--
				if flow.Proves(n, from, to, wrong, cut) {
					t.Fatal("P10.4: Proves accepts what is no flow:", n)
				}
				break
			}
		}
	}
}

func TestServe(t *testing.T) {
	if f, cut, e := flow.Serve(example(), []int{4, 0, 0, -4}); e != api.OK || cut != nil || flow.Value(example(), 0, f) != 4 || flow.Check(example(), 0, 3, f) != api.OK {
		t.Error("P10.5: the example:", f, cut, e)
	}
	if f, cut, e := flow.Serve(example(), []int{6, 0, 0, -6}); e != api.ErrSupply || f != nil || !slices.Equal(cut, []bool{true, false, false, false}) {
		t.Error("P10.5: the example:", f, cut, e)
	}
	for i, x := range []struct {
		supply []int
		cut    []bool
		e      api.Errno
	}{
		{[]int{1, 0, 0}, nil, 1}, {[]int{1, 0, 0, 0, -1}, nil, 1}, {nil, nil, 1}, {[]int{api.MaxCap + 1, 0, 0, -api.MaxCap - 1}, nil, 1}, {[]int{0, 0, 0, math.MinInt}, nil, 1},
		{[]int{1, 0, 0, 0}, []bool{true, true, true, true}, 102}, {[]int{0, 0, 0, -1}, []bool{true, true, true, true}, 102}, {[]int{api.MaxCap, -api.MaxCap, 0, 0}, []bool{true, false, true, true}, 102},
	} {
		if f, cut, e := flow.Serve(example(), x.supply); f != nil || !slices.Equal(cut, x.cut) || e != x.e {
			t.Error("P10.5: Serve:", i, f, cut, e)
		}
	}
	wide := net(api.MaxNodes, slices.Repeat([]api.Arc{arc(0, 1, 1)}, api.MaxArcs)...)
	supply := make([]int, api.MaxNodes)
	supply[0], supply[1], supply[7], supply[8] = 9, -9, 0, 0
	if f, cut, e := flow.Serve(wide, supply); e != api.OK || len(f) != api.MaxArcs || cut != nil {
		t.Error("P10.5: the greatest network:", e)
	}
	r := rand.New(rand.NewSource(2))
	served := 0
	for range 3000 {
		n := randomNet(r)
		supply := make([]int, n.Nodes)
		for range r.Intn(5) {
			x := r.Intn(4)
			supply[r.Intn(n.Nodes)] += x
			supply[r.Intn(n.Nodes)] -= x
		}
		big := net(n.Nodes+2, n.Arcs...)
		for i, s := range supply {
			if s > 0 {
				big.Arcs = append(slices.Clip(big.Arcs), arc(n.Nodes, i, s))
			} else if s < 0 {
				big.Arcs = append(slices.Clip(big.Arcs), arc(i, n.Nodes+1, -s))
			}
		}
		wantF, wantCut := slowMost(big, n.Nodes, n.Nodes+1)
		f, cut, e := flow.Serve(n, supply)
		possible := true
		cuts(n, func(c []bool) {
			sum := -flow.CutValue(n, c)
			for i, s := range supply {
				if c[i] {
					sum += s
				}
			}
			possible = possible && sum <= 0
		})
		if possible != (e == api.OK) {
			t.Fatal("P10.8:", n, supply, e)
		}
		if e == api.OK {
			served++
			if cut != nil || !slices.Equal(f, wantF[:len(n.Arcs)]) {
				t.Fatal("P10.5: the flow:", n, supply, f)
			}
			for i, s := range supply {
				if flow.Value(n, i, f) != s {
					t.Fatal("P10.8: a node is not served:", n, supply, f)
				}
			}
			continue
		}
		sum := 0
		for i, s := range supply {
			if cut[i] {
				sum += s
			}
		}
		if e != api.ErrSupply || f != nil || !slices.Equal(cut, wantCut[:n.Nodes]) || sum <= flow.CutValue(n, cut) {
			t.Fatal("P10.5: the cut:", n, supply, cut, e)
		}
	}
	if served < 100 {
		t.Error("too few supplies could be served:", served)
	}
}

// slowPaths does what P10.6 says.
func slowPaths(n api.Net, from, to int, f []int) (ways [][]int, amounts []int) {
	f = slices.Clone(f)
	for flow.Value(n, from, f) > 0 {
		var way []int
		nodes := []int{from}
		for {
			at := nodes[len(nodes)-1]
			i := slices.IndexFunc(n.Arcs, func(a api.Arc) bool { return a.From == at && f[slices.Index(n.Arcs, a)] > 0 })
			way = append(way, i)
			node := n.Arcs[i].To
			if k := slices.Index(nodes, node); k >= 0 {
				way = way[k:]
			} else if nodes = append(nodes, node); node != to {
				continue
			}
			least := math.MaxInt
			for _, i := range way {
				least = min(least, f[i])
			}
			for _, i := range way {
				f[i] -= least
			}
			if node == to {
				ways, amounts = append(ways, way), append(amounts, least)
			}
			break
		}
	}
	return ways, amounts
}

// addCircles sends more around circles, so that ways meet nodes again.
func addCircles(r *rand.Rand, n api.Net, f []int) {
	for range 20 {
		at := r.Intn(n.Nodes)
		begin := at
		var way []int
		for range n.Nodes {
			var out []int
			for i, a := range n.Arcs {
				if a.From == at && f[i] < a.Cap && !slices.Contains(way, i) {
					out = append(out, i)
				}
			}
			if len(out) == 0 {
				break
			}
			i := out[r.Intn(len(out))]
			way, at = append(way, i), n.Arcs[i].To
			if at == begin {
				for _, i := range way {
					f[i]++
				}
				break
			}
		}
	}
}

func TestPaths(t *testing.T) {
	ways, amounts, e := flow.Paths(example(), 0, 3, []int{3, 2, 1, 2, 3})
	if e != api.OK || !reflect.DeepEqual(ways, [][]int{{0, 2, 4}, {0, 3}, {1, 4}}) || !slices.Equal(amounts, []int{1, 2, 2}) {
		t.Error("P10.6: the example:", ways, amounts, e)
	}
	for i, x := range []struct {
		from, to int
		flow     []int
		e        api.Errno
	}{{0, 0, make([]int, 5), 1}, {0, 3, nil, 1}, {0, 3, []int{4, 0, 0, 0, 0}, 101}, {0, 3, []int{1, 0, 0, 0, 0}, 100}, {0, 3, make([]int, 5), 0}} {
		if ways, amounts, e := flow.Paths(example(), x.from, x.to, x.flow); len(ways) != 0 || len(amounts) != 0 || e != x.e {
			t.Error("P10.6: Paths:", i, ways, amounts, e)
		}
	}
	r := rand.New(rand.NewSource(3))
	for range 4000 {
		n := randomNet(r)
		for i := range n.Arcs {
			n.Arcs[i].Cost = i // so that all arcs are different
		}
		from := r.Intn(n.Nodes)
		to := (from + 1 + r.Intn(n.Nodes-1)) % n.Nodes
		f, _, _ := flow.Most(n, from, to)
		addCircles(r, n, f)
		if flow.Check(n, from, to, f) != api.OK {
			continue
		}
		old := slices.Clone(f)
		ways, amounts, e := flow.Paths(n, from, to, f)
		wantW, wantA := slowPaths(n, from, to, f)
		if e != api.OK || !reflect.DeepEqual(ways, wantW) || !reflect.DeepEqual(amounts, wantA) || !slices.Equal(f, old) {
			t.Fatal("P10.6:", n, from, to, f, ways, amounts, wantW, wantA)
		}
		used, sum := make([]int, len(f)), 0
		for k, way := range ways {
			nodes := map[int]bool{}
			at := from
			for _, i := range way {
				if n.Arcs[i].From != at || nodes[at] {
					t.Fatal("P10.6: no way:", n, way)
				}
				nodes[at], at = true, n.Arcs[i].To
				used[i] += amounts[k]
			}
			if at != to || nodes[to] || len(way) > n.Nodes-1 || amounts[k] < 1 {
				t.Fatal("P10.9: no way:", n, way)
			}
			sum += amounts[k]
		}
		for i := range f {
			if used[i] > f[i] {
				t.Fatal("P10.9: more than the flow:", n, f, ways)
			}
		}
		if sum != flow.Value(n, from, f) {
			t.Fatal("P10.9: the sum:", n, f, ways)
		}
	}
}
