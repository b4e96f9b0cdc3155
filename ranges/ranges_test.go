package ranges_test

import (
	"fmt"
	"math"
	"math/rand"
	"slices"
	"strings"
	"testing"

	"weirgate/api"
	"weirgate/ranges"
)

const small = 24 // bytes of the objects of random tests

func spans(l ...int) []api.Span {
	var s []api.Span
	for i := 0; i < len(l); i += 2 {
		s = append(s, api.Span{From: l[i], To: l[i+1]})
	}
	return s
}

// bits has true for each byte that one of the spans has.
func bits(l ...api.Span) [small]bool {
	var b [small]bool
	for _, s := range l {
		for i := s.From; i < s.To; i++ {
			b[i] = true
		}
	}
	return b
}

// set is the set of bytes that are true.
func set(b [small]bool) []api.Span {
	var l []api.Span
	for i, x := range b {
		if x && i > 0 && b[i-1] {
			l[len(l)-1].To++
		} else if x {
			l = append(l, api.Span{From: i, To: i + 1})
		}
	}
	return l
}

func randomSpan(r *rand.Rand) api.Span {
	if r.Intn(8) == 0 {
		return spans(r.Intn(9), -r.Intn(9))[0]
	}
	from := r.Intn(small)
	return api.Span{From: from, To: from + r.Intn(min(7, small-from+1))}
}

func randomSpans(r *rand.Rand) []api.Span {
	var l []api.Span
	for range r.Intn(6) {
		l = append(l, randomSpan(r))
	}
	return l
}

func TestValid(t *testing.T) {
	for i, x := range []struct {
		l  []api.Span
		ok bool
	}{
		{nil, true}, {spans(0, 1), true}, {spans(0, 1, 2, 3), true}, {spans(0, api.MaxBytes), true}, {spans(5, 6, 7, 9, 20, api.MaxBytes), true},
		{spans(0, 0), false}, {spans(3, 2), false}, {spans(-1, 2), false}, {spans(0, api.MaxBytes+1), false}, {spans(0, 1, 1, 2), false}, {spans(0, 3, 2, 5), false}, {spans(4, 5, 0, 1), false},
		{spans(0, 1, 3, 3), false}, {spans(math.MinInt, math.MaxInt), false}, {spans(0, 1, math.MinInt, 3), false},
	} {
		if ranges.Valid(x.l) != x.ok {
			t.Error("P7.1: Valid:", i)
		}
	}
}

func TestExamples(t *testing.T) {
	l := ranges.Of(spans(5, 9, 0, 3, 3, 4, 7, 7)...)
	if !slices.Equal(l, spans(0, 4, 5, 9)) {
		t.Error("P7.1: Of:", l)
	}
	if x := ranges.Add(l, spans(4, 5)[0]); !slices.Equal(x, spans(0, 9)) {
		t.Error("P7.1: Add:", x)
	}
	if x := ranges.Minus(l, spans(2, 3, 8, 20)); !slices.Equal(x, spans(0, 2, 3, 4, 5, 8)) {
		t.Error("P7.2: Minus:", x)
	}
	if x := ranges.Missing(l, spans(3, 12)[0]); !slices.Equal(x, spans(4, 5, 9, 12)) {
		t.Error("P7.3: Missing:", x)
	}
	far := spans(5, 6, api.MaxBytes-1, api.MaxBytes)
	if x := ranges.Minus(spans(0, api.MaxBytes), far); !slices.Equal(x, spans(0, 5, 6, api.MaxBytes-1)) || ranges.Total(x) != api.MaxBytes-2 {
		t.Error("P7.2: far bytes:", x)
	}
	if x := ranges.Of(spans(9, 3, 4, 4, math.MaxInt, math.MinInt)...); len(x) != 0 {
		t.Error("P7.1: empty spans:", x)
	}
}

func TestSets(t *testing.T) {
	r := rand.New(rand.NewSource(1))
	for range 20000 {
		given, s := randomSpans(r), randomSpan(r)
		old := slices.Clone(given)
		a := ranges.Of(given...)
		if !slices.Equal(given, old) {
			t.Fatal("Of has changed its argument")
		}
		b := ranges.Of(randomSpans(r)...)
		if !slices.Equal(a, set(bits(given...))) || !ranges.Valid(a) {
			t.Fatal("P7.1: Of:", given, a)
		}
		inA, inB, inS := bits(a...), bits(b...), bits(s)
		var either, both, only, all, gone [small]bool
		n := 0
		for i := range small {
			either[i], both[i], only[i] = inA[i] || inS[i], inA[i] && inB[i], inA[i] && !inB[i]
			all[i], gone[i] = inA[i] || inB[i], inS[i] && !inA[i]
			if inA[i] {
				n++
			}
			if ranges.Has(a, i) != inA[i] {
				t.Fatal("P7.3: Has:", a, i)
			}
		}
		oldA, oldB := slices.Clone(a), slices.Clone(b)
		for i, x := range []struct{ got, want []api.Span }{
			{ranges.Add(a, s), set(either)}, {ranges.Meet(a, b), set(both)}, {ranges.Minus(a, b), set(only)}, {ranges.Missing(a, s), set(gone)},
		} {
			if !slices.Equal(x.got, x.want) {
				t.Fatal("P7.1 to P7.3, P7.6:", i, a, b, s, x.got)
			}
			for k := range x.got {
				x.got[k] = api.Span{From: 99, To: 98}
			}
		}
		if !slices.Equal(a, oldA) || !slices.Equal(b, oldB) {
			t.Fatal("arguments were changed, or results share their memory")
		}
		if ranges.Covers(a, s) != !slices.Contains(gone[:], true) || ranges.Total(a) != n {
			t.Fatal("P7.3, P7.8: Covers, Total:", a, s)
		}
		union := a
		for _, s := range b {
			union = ranges.Add(union, s)
		}
		if !slices.Equal(union, set(all)) || ranges.Total(a)+ranges.Total(b) != ranges.Total(union)+ranges.Total(ranges.Meet(a, b)) {
			t.Fatal("P7.7:", a, b)
		}
		missing, there := ranges.Missing(a, s), ranges.Meet(a, ranges.Of(s))
		if len(ranges.Meet(missing, there)) != 0 || !slices.Equal(ranges.Of(append(missing, there...)...), ranges.Of(s)) {
			t.Fatal("P7.8:", a, s)
		}
		if len(a) > 0 {
			if l, e := ranges.Parse(ranges.Print(a), small); !slices.Equal(l, a) || e != api.OK {
				t.Fatal("P7.9:", a, l, e)
			}
		}
	}
	for _, i := range []int{-1, 10, math.MinInt, math.MaxInt} {
		if ranges.Has(spans(0, 10), i) {
			t.Error("P7.3: Has:", i)
		}
	}
	if !ranges.Covers(nil, spans(5, 5)[0]) || !ranges.Covers(nil, spans(5, -3)[0]) || ranges.Covers(nil, spans(5, 6)[0]) {
		t.Error("P7.3: Covers of empty spans")
	}
}

func TestParse(t *testing.T) {
	n15 := "999999999999999"
	for i, x := range []struct {
		text string
		size int
		want []api.Span
		e    api.Errno
	}{
		{"bytes=0-1,7-,-2", 10, spans(0, 2, 7, 10), 0}, {"bytes=10-", 10, nil, 70}, {"bytes=3-2", 10, nil, 3}, {"bytes=0-0", 1, spans(0, 1), 0}, {"bytes=0-" + n15, 5, spans(0, 5), 0}, {"bytes=" + n15 + "-", 5, nil, 70},
		{"bytes=-" + n15, 5, spans(0, 5), 0}, {"bytes=-0", 5, nil, 70}, {"bytes=-0,2-3", 5, spans(2, 4), 0}, {"bytes=-1,0-0,2-2", 5, spans(0, 1, 2, 3, 4, 5), 0}, {"bytes=5-9,1-2", 5, spans(1, 3), 0}, {"bytes=0-", 0, nil, 70}, {"bytes=-5", 0, nil, 70},
		{"bytes=0-", api.MaxBytes, spans(0, api.MaxBytes), 0}, {"bytes=2-2,0-1", 5, spans(0, 3), 0},
		{"", 5, nil, 3}, {"bytes", 5, nil, 3}, {"bytes=", 5, nil, 3}, {"Bytes=0-1", 5, nil, 3}, {"bytes= 0-1", 5, nil, 3}, {"bytes=0", 5, nil, 3}, {"bytes=-", 5, nil, 3}, {"bytes=0-1,", 5, nil, 3}, {"bytes=,0-1", 5, nil, 3}, {"bytes=0-1,,2-3", 5, nil, 3},
		{"bytes=00-1", 5, nil, 3}, {"bytes=0-01", 5, nil, 3}, {"bytes=-01", 5, nil, 3}, {"bytes=0--1", 5, nil, 3}, {"bytes=+0-1", 5, nil, 3}, {"bytes=0-1 ", 5, nil, 3}, {"bytes=0-1;2-3", 5, nil, 3}, {"bytes=1" + n15 + "-", 5, nil, 3}, {"bytes=0-1" + n15, 5, nil, 3},
		{"bytes=8-7", 5, nil, 3}, {"bytes=9-,3-2", 5, nil, 3}, {"bytes=a-b", 5, nil, 3}, {"bytes=0-1-2", 5, nil, 3},
		{"bytes=0-1", -1, nil, 1}, {"x", -1, nil, 1}, {"bytes=0-1", api.MaxBytes + 1, nil, 1}, {strings.Repeat("x", 10001), 5, nil, 2}, {strings.Repeat("x", 10001), -1, nil, 1}, {strings.Repeat("x", 10000), 5, nil, 3},
		{"bytes=" + strings.Repeat("0-1,", 2498) + "0", 5, nil, 3}, {"bytes=00-1" + strings.Repeat(",0-1", 2497), 5, nil, 3}, {"bytes=0-1" + strings.Repeat(",0-1", 2497), 5, spans(0, 2), 0},
	} {
		l, e := ranges.Parse(x.text, x.size)
		if !slices.Equal(l, x.want) || e != x.e {
			t.Error("P7.4: case", i, l, e)
		}
	}
}

func TestPrint(t *testing.T) {
	if s := ranges.Print(nil); s != "" {
		t.Error("P7.5: the empty set:", s)
	}
	if s := ranges.Print(spans(0, 1, 3, 9, 20, api.MaxBytes)); s != fmt.Sprintf("bytes=0-0,3-8,20-%d", api.MaxBytes-1) {
		t.Error("P7.5:", s)
	}
}
