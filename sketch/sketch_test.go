package sketch_test

import (
	"math"
	"math/rand"
	"reflect"
	"slices"
	"strconv"
	"testing"

	"weirgate/api"
	"weirgate/hash"
	"weirgate/sketch"
)

func must(t *testing.T, width, sample int) api.Sketch {
	s, e := sketch.New(width, sample)
	if e != api.OK {
		t.Fatal("New:", width, sample, e)
	}
	return s
}

func clone(s api.Sketch) api.Sketch {
	s.Cells = slices.Clone(s.Cells)
	return s
}

// own returns which elements the cells of a key are.
func own(s api.Sketch, key string) []int {
	var l []int
	for row := range api.SketchRows {
		l = append(l, row*s.Width+sketch.Place(key, row, s.Width))
	}
	return l
}

func TestNewValid(t *testing.T) {
	for i, x := range []struct {
		width, sample int
		e             api.Errno
	}{
		{8, 100, 0}, {1, 1, 0}, {api.MaxWidth, api.MaxSample, 0}, {6, 100, 1}, {0, 100, 1}, {-8, 100, 1}, {math.MinInt, 100, 1}, {8, 0, 1}, {8, -1, 1}, {8192, 100, 2}, {8, api.MaxSample + 1, 2},
		{8192, 0, 1}, {6, api.MaxSample + 1, 1}, {1 << 62, 5, 2}, {8191, 100, 1},
	} {
		s, e := sketch.New(x.width, x.sample)
		if e != x.e || e != api.OK && !reflect.DeepEqual(s, api.Sketch{}) {
			t.Error("P8.1: New:", i, e)
		}
		if e == api.OK && (s.Width != x.width || s.Sample != x.sample || s.Added != 0 || len(s.Cells) != 4*x.width || sketch.Fill(s) != 0 || !sketch.Valid(s)) {
			t.Error("P8.1: New:", i, s)
		}
	}
	if s := must(t, 8, 100); len(s.Cells) != 32 || sketch.Count(s, "a") != 0 {
		t.Error("P8.1: the example")
	}
	good := api.Sketch{Width: 2, Sample: 9, Added: 8, Cells: []int{0, 1, 2, 3, 4, 5, 6, 8}}
	if !sketch.Valid(good) {
		t.Error("P8.1: a valid sketch")
	}
	full := api.Sketch{Width: 1, Sample: 99, Added: 98, Cells: []int{15, 15, 15, 15}}
	if !sketch.Valid(full) {
		t.Error("P8.1: a full sketch")
	}
	for i, change := range []func(s *api.Sketch){
		func(s *api.Sketch) { s.Width = 1 }, func(s *api.Sketch) { s.Width = 3 }, func(s *api.Sketch) { s.Width, s.Cells = 0, nil }, func(s *api.Sketch) { s.Width = -2 }, func(s *api.Sketch) { s.Sample = 8 },
		func(s *api.Sketch) { s.Sample = api.MaxSample + 1 }, func(s *api.Sketch) { s.Sample, s.Added, s.Cells = 0, 0, make([]int, 8) }, func(s *api.Sketch) { s.Added = -1 }, func(s *api.Sketch) { s.Added = 9 }, func(s *api.Sketch) { s.Added = 7 },
		func(s *api.Sketch) { s.Cells[0] = -1 }, func(s *api.Sketch) { s.Cells[3], s.Added, s.Sample = 16, 50, 60 }, func(s *api.Sketch) { s.Cells = s.Cells[:7] }, func(s *api.Sketch) { s.Cells = append(s.Cells, 0) },
		func(s *api.Sketch) { s.Width, s.Cells = 8192, make([]int, 4*8192) },
	} {
		s := clone(good)
		change(&s)
		if sketch.Valid(s) {
			t.Error("P8.1: a sketch that is not valid:", i)
		}
	}
}

func TestPlace(t *testing.T) {
	for _, key := range []string{"", "a", "acme/a de"} {
		for row := range api.SketchRows {
			d := hash.Of(80+row, key)
			n := 0
			for _, b := range d[:4] {
				n = n*256 + int(b)
			}
			for width := 1; width <= api.MaxWidth; width *= 2 {
				if p := sketch.Place(key, row, width); p != n%width {
					t.Error("P8.1: Place:", key, row, width, p)
				}
			}
		}
	}
}

func TestExamples(t *testing.T) {
	s := must(t, 1, 100)
	for _, k := range []string{"a", "a", "b"} {
		s = sketch.Add(s, k)
	}
	if sketch.Count(s, "a") != 3 || sketch.Count(s, "b") != 3 || sketch.Count(s, "c") != 3 || sketch.Fill(s) != 4 {
		t.Error("P8.2: one cell in each row:", s)
	}
	s = must(t, 1, 4)
	for range 4 {
		s = sketch.Add(s, "a")
	}
	if !reflect.DeepEqual(s, api.Sketch{Width: 1, Sample: 4, Added: 2, Cells: []int{2, 2, 2, 2}}) {
		t.Error("P8.2, P8.3: halving:", s)
	}
	s = must(t, 4, 1)
	if s = sketch.Add(s, "a"); s.Added != 0 || sketch.Fill(s) != 0 {
		t.Error("P8.2: a sample of one:", s)
	}
	s = must(t, 4, 100)
	for range 20 {
		s = sketch.Add(s, "a")
	}
	if sketch.Count(s, "a") != api.MaxCell || s.Added != 20 || !sketch.Valid(s) {
		t.Error("P8.2: cells are bounded:", s)
	}
	if h := sketch.Halve(api.Sketch{Width: 1, Sample: 7, Added: 7, Cells: []int{0, 1, 6, 7}}); !reflect.DeepEqual(h, api.Sketch{Width: 1, Sample: 7, Added: 3, Cells: []int{0, 0, 3, 3}}) {
		t.Error("P8.3:", h)
	}
}

// slowAdd adds as the chapter says it.
func slowAdd(s api.Sketch, key string) api.Sketch {
	s = clone(s)
	count := api.MaxCell
	for _, i := range own(s, key) {
		count = min(count, s.Cells[i])
	}
	for _, i := range own(s, key) {
		if s.Cells[i] == count {
			s.Cells[i] = min(api.MaxCell, count+1)
		}
	}
	s.Added++
	if s.Added == s.Sample {
		for i := range s.Cells {
			s.Cells[i] /= 2
		}
		s.Added /= 2
	}
	return s
}

func TestRandom(t *testing.T) {
	r := rand.New(rand.NewSource(1))
	for range 40 {
		s := must(t, 1<<r.Intn(6), 1+r.Intn(150))
		keys := make([]string, 1+r.Intn(12))
		for i := range keys {
			keys[i] = strconv.Itoa(r.Int())
		}
		number := map[string]int{}
		alone := map[string]bool{}
		for _, x := range keys {
			alone[x] = true
			for _, y := range keys {
				for i, cell := range own(s, x) {
					alone[x] = alone[x] && (x == y || own(s, y)[i] != cell)
				}
			}
		}
		for range 300 {
			k := keys[r.Intn(1+r.Intn(len(keys)))]
			old := clone(s)
			next := sketch.Add(s, k)
			if !reflect.DeepEqual(s, old) {
				t.Fatal("Add has changed its argument")
			}
			if !reflect.DeepEqual(next, slowAdd(s, k)) || !sketch.Valid(next) {
				t.Fatal("P8.2:", s, k, next)
			}
			halved := next.Added <= s.Added
			number[k] = min(api.MaxCell, number[k]+1)
			for _, x := range keys {
				if halved {
					number[x] /= 2
				}
				was, is := sketch.Count(s, x), sketch.Count(next, x)
				if is < number[x] {
					t.Fatal("P8.6: Count is too small:", x, is, number[x])
				}
				if !halved && (is < was || is > was+1) {
					t.Fatal("P8.7: Count:", x, was, is)
				}
				if alone[x] && is != number[x] {
					t.Fatal("P8.8: Count of a key that is alone:", x, is, number[x])
				}
			}
			s = next
		}
		fill := 0
		for _, c := range s.Cells {
			if c > 0 {
				fill++
			}
		}
		if sketch.Fill(s) != fill {
			t.Fatal("P8.5: Fill:", s)
		}
	}
}

func TestMerge(t *testing.T) {
	a := api.Sketch{Width: 1, Sample: 50, Added: 20, Cells: []int{1, 7, 9, 15}}
	b := api.Sketch{Width: 1, Sample: 50, Added: 29, Cells: []int{0, 8, 9, 1}}
	m, e := sketch.Merge(a, b)
	if e != api.OK || !reflect.DeepEqual(m, api.Sketch{Width: 1, Sample: 50, Added: 49, Cells: []int{1, 15, 15, 15}}) {
		t.Error("P8.4: without halving:", m, e)
	}
	b.Added = 31
	m, e = sketch.Merge(a, b)
	if e != api.OK || !reflect.DeepEqual(m, api.Sketch{Width: 1, Sample: 50, Added: 25, Cells: []int{0, 7, 7, 7}}) {
		t.Error("P8.4: halved:", m, e)
	}
	b.Added = 30
	if m, _ = sketch.Merge(a, b); m.Added != 25 {
		t.Error("P8.4: halved at Sample:", m)
	}
	for i, x := range []api.Sketch{{Width: 2, Sample: 50, Cells: make([]int, 8)}, {Width: 1, Sample: 49, Cells: make([]int, 4)}} {
		if m, e := sketch.Merge(a, x); e != api.ErrArg || !reflect.DeepEqual(m, api.Sketch{}) {
			t.Error("P8.4: other sizes:", i, m, e)
		}
	}
	r := rand.New(rand.NewSource(2))
	for range 200 {
		a, b := must(t, 8, 60), must(t, 8, 60)
		for range r.Intn(60) {
			a = sketch.Add(a, strconv.Itoa(r.Intn(5)))
		}
		for range r.Intn(60) {
			b = sketch.Add(b, strconv.Itoa(r.Intn(5)))
		}
		oldA, oldB := clone(a), clone(b)
		m, e := sketch.Merge(a, b)
		n, _ := sketch.Merge(b, a)
		if e != api.OK || !sketch.Valid(m) || !reflect.DeepEqual(m, n) {
			t.Fatal("P8.4, P8.9:", a, b, m)
		}
		for k := range 5 {
			key := strconv.Itoa(k)
			sum := min(api.MaxCell, sketch.Count(a, key)+sketch.Count(b, key))
			if a.Added+b.Added >= 60 {
				sum /= 2
			}
			if sketch.Count(m, key) < sum {
				t.Fatal("P8.9: Count of the merged sketch:", key)
			}
		}
		clear(m.Cells)
		clear(n.Cells)
		if !reflect.DeepEqual(a, oldA) || !reflect.DeepEqual(b, oldB) {
			t.Fatal("Merge has changed an argument, or shares its memory")
		}
		h := sketch.Halve(a)
		clear(h.Cells)
		if !reflect.DeepEqual(a, oldA) {
			t.Fatal("Halve shares memory with its argument")
		}
	}
}
