package effect_test

import (
	"math"
	"math/rand"
	"reflect"
	"slices"
	"strings"
	"testing"

	"weirgate/api"
	"weirgate/effect"
	"weirgate/parser"
	"weirgate/typing"
)

func parse(t *testing.T, s string) api.Program {
	t.Helper()
	x, p := parser.Parse(s)
	y, q := typing.Check(x)
	if p.E != api.OK || q.E != api.OK {
		t.Fatalf("%q: %v %v", s, p, q)
	}
	return y.Programs[0]
}

func TestExample(t *testing.T) {
	p := parse(t, `program p effects reads, writes { repeat 3 { set header "a" = header "b" + "x"; } if header "b" == "" { deny "no"; } }`)
	if l := effect.Used(p); !slices.Equal(l, []int{api.EfReads, api.EfWrites, api.EfDeny}) || effect.Declared(p) || len(effect.Excess(p)) != 0 {
		t.Error("P27.1:", l)
	}
	if !slices.Equal(effect.Reads(p), []string{"b"}) || !slices.Equal(effect.Writes(p), []string{"a"}) || effect.ReadsStatus(p) {
		t.Error("P27.2:", effect.Reads(p), effect.Writes(p))
	}
	most, e := effect.Most(p)
	least, f := effect.Least(p)
	if most != 22 || least != 20 || e != api.OK || f != api.OK || effect.Ends(p) {
		t.Error("P27.3:", most, least)
	}
	if effect.Apart(p, api.Program{}) || effect.Apart(api.Program{}, p) {
		t.Error("P27.4: a program that ends")
	}
}

func TestUsed(t *testing.T) {
	for i, x := range []struct {
		s, options            string
		used, excess          []int
		declared, status      bool
		readsNames, writeSets []string
	}{
		{"", "", nil, nil, true, false, nil, nil},
		{"", "effects log, deny", nil, []int{api.EfLog, api.EfDeny}, true, false, nil, nil},
		{`log "a";`, "effects log", []int{api.EfLog}, nil, true, false, nil, nil},
		{`let x = status;`, "effects reads", []int{api.EfReads}, nil, true, true, nil, nil},
		{`let x = status;`, "", []int{api.EfReads}, nil, false, true, nil, nil},
		{`set status = 200;`, "effects status, reads", []int{api.EfStatus}, []int{api.EfReads}, true, false, nil, nil},
		{`reply "x";`, "effects writes", []int{api.EfReply}, []int{api.EfWrites}, false, false, nil, nil},
		{`if true { } else { repeat 0 { deny header "z" + header "b" + header "z"; } } set header "y" = "1"; set header "b" = "2"; set header "y" = "3";`, "effects deny, reads, writes", []int{api.EfReads, api.EfWrites, api.EfDeny}, nil, true, false, []string{"b", "z"}, []string{"b", "y"}},
		{`if status == 1 { log header ""; }`, "effects reads, log", []int{api.EfReads, api.EfLog}, nil, true, true, []string{""}, nil},
		{`set header "h" = "x"; if 1 in (2, status) { reply "a"; }`, "effects reads, writes, status, log, deny, reply", []int{1, 2, 6}, []int{3, 4, 5}, true, true, nil, []string{"h"}},
	} {
		p := parse(t, "program p "+x.options+" { "+x.s+" }")
		if !slices.Equal(effect.Used(p), x.used) || effect.Declared(p) != x.declared || !slices.Equal(effect.Excess(p), x.excess) {
			t.Error("P27.1:", i, effect.Used(p), effect.Declared(p), effect.Excess(p))
		}
		if !slices.Equal(effect.Reads(p), x.readsNames) || !slices.Equal(effect.Writes(p), x.writeSets) || effect.ReadsStatus(p) != x.status {
			t.Error("P27.2:", i, effect.Reads(p), effect.Writes(p), effect.ReadsStatus(p))
		}
	}
}

func TestCosts(t *testing.T) {
	deep := func(n int, inner string) string {
		for range n {
			inner = "repeat 1000 { " + inner + " }"
		}
		return inner
	}
	for i, x := range []struct {
		s           string
		least, most int
		ends        bool
		e, f        api.Errno // of Least and Most
	}{
		{"", 0, 0, false, 0, 0}, {`log "a";`, 2, 2, false, 0, 0}, {`deny "a";`, 2, 2, true, 0, 0}, {`reply "a" + "b"; log "c";`, 4, 4, true, 0, 0}, {"repeat 0 { }", 1, 1, false, 0, 0}, {`repeat 0 { deny "a"; }`, 1, 1, false, 0, 0}, {"repeat 5 { }", 6, 6, false, 0, 0}, {`repeat 5 { log "a"; }`, 16, 16, false, 0, 0},
		{`repeat 5 { deny "a"; }`, 4, 4, true, 0, 0}, {`repeat 1 { deny "a"; }`, 4, 4, true, 0, 0}, {`if true { log "a"; }`, 2, 4, false, 0, 0}, {`if true { } else { log "a"; log "b"; }`, 2, 6, false, 0, 0}, {`if true { deny "a"; }`, 2, 4, false, 0, 0}, {`if true { deny "a"; } else { reply "a" + "b"; }`, 4, 6, true, 0, 0},
		{`if true { deny "a"; } log "b"; if true { reply "c"; } else { log "d"; reply "e"; }`, 4, 10, true, 0, 0}, {`repeat 5 { if true { deny "a"; } }`, 1 + 1 + 4, 1 + 4*3 + 1 + 4, false, 0, 0}, {`repeat 5 { if true { deny "a"; } else { log "b"; log "c"; } }`, 1 + 1 + 4, 1 + 5*7, false, 0, 0},
		{`repeat 2 { log "a"; deny "b"; } log "c";`, 6, 6, true, 0, 0}, {deep(3, ""), 1002002001, 1002002001, false, 0, 0}, {deep(4, ""), 1002002002001, 1002002002001, false, 0, 0}, {deep(5, ""), 0, 0, false, 2, 2}, {`if true { ` + deep(5, "") + ` }`, 2, 0, false, 0, 2}, {`if true { ` + deep(35, "") + ` } log "x";`, 4, 0, false, 0, 2}, {`if true { deny "x"; } ` + deep(35, ""), 4, 0, false, 0, 2},
		{deep(35, "") + ` deny "x";`, 0, 0, true, 2, 2}, {`repeat 1000 { if true { deny "x"; } ` + deep(4, "") + ` }`, 6, 0, false, 0, 2},
	} {
		p := parse(t, "program p { "+x.s+" }")
		least, e := effect.Least(p)
		most, f := effect.Most(p)
		if least != x.least || most != x.most || e != x.e || f != x.f || effect.Ends(p) != x.ends {
			t.Errorf("P27.3: %d %.60s: %d %d %d %d %v", i, x.s, least, e, most, f, effect.Ends(p))
		}
	}
	// 2^40, put together by parts that become smaller.
	exact := deep(4, "") + strings.Repeat(deep(3, ""), 97) + strings.Repeat(deep(2, ""), 314) + strings.Repeat(deep(1, ""), 802) + strings.Repeat(`log "a"; `, 281)
	p := parse(t, "program p { "+exact+" }")
	if n, e := effect.Most(p); n != 1<<40 || e != api.OK {
		t.Error("P27.3: 2^40:", n, e)
	}
	if n, e := effect.Least(p); n != 1<<40 || e != api.OK {
		t.Error("P27.3: 2^40:", n, e)
	}
	p = parse(t, "program p { "+exact+" repeat 0 { } }")
	if n, e := effect.Most(p); n != 0 || e != api.ErrLimit {
		t.Error("P27.3: more than 2^40:", n, e)
	}
	if n, e := effect.Least(p); n != 0 || e != api.ErrLimit {
		t.Error("P27.3: more than 2^40:", n, e)
	}
}

func TestApart(t *testing.T) {
	for i, x := range []struct {
		p, q string
		ok   bool
	}{
		{"", "", true}, {`log "a";`, `log "b";`, true}, {`set header "a" = "1";`, `set header "b" = header "c";`, true}, {`set header "a" = "1";`, `set header "a" = "1";`, false}, {`set header "a" = "1";`, `log header "a";`, false}, {`log header "a";`, `log header "a";`, true}, {`log header "a";`, `set header "a" = "1";`, false},
		{"set status = 200;", "", true}, {"set status = 200;", "set status = 200;", false}, {"set status = 200;", "let x = status;", false}, {"let x = status;", "set status = 200;", false}, {"let x = status;", "let x = status;", true}, {`set status = 200;`, `set header "a" = header "a";`, true}, {`deny "a";`, "", false}, {"", `reply "a";`, false}, {`if false { reply "a"; }`, "", false}, {"", `repeat 0 { deny "a"; }`, false},
	} {
		p, q := parse(t, "program p { "+x.p+" }"), parse(t, "program p { "+x.q+" }")
		if effect.Apart(p, q) != x.ok || effect.Apart(q, p) != x.ok {
			t.Error("P27.4:", i)
		}
	}
}

func TestNotRight(t *testing.T) {
	good := parse(t, `program p effects log { let x = header "h"; set header "a" = "b"; if status == 1 { log "x"; } deny "a"; }`)
	for i, change := range []func(p *api.Program){
		func(p *api.Program) { p.Effects = []int{7} }, func(p *api.Program) { p.Code[0].Slot = 5 }, func(p *api.Program) { p.Code[0].Kind = 99 }, func(p *api.Program) { p.Code[0].X.Type = math.MinInt },
	} {
		p := good
		p.Code = slices.Clone(good.Code)
		change(&p)
		most, e := effect.Most(p)
		least, f := effect.Least(p)
		if len(effect.Used(p))+len(effect.Excess(p))+len(effect.Reads(p))+len(effect.Writes(p))+most+least != 0 || e != 1 || f != 1 || effect.Declared(p) || effect.ReadsStatus(p) || effect.Ends(p) || effect.Apart(p, api.Program{}) || effect.Apart(api.Program{}, p) {
			t.Error("P27.1 to P27.4: a program that is not right:", i)
		}
	}
	if !effect.Apart(api.Program{}, api.Program{}) || !effect.Declared(api.Program{}) {
		t.Error("the empty program is right")
	}
}

func values(l []api.Header, name string) []string {
	var out []string
	for _, h := range l {
		if h.Name == name {
			out = append(out, h.Value)
		}
	}
	return out
}

func TestRuns(t *testing.T) {
	r := rand.New(rand.NewSource(1))
	ends := 0
	for range 1500 {
		p := program(t, r, "")
		most, e := effect.Most(p)
		least, f := effect.Least(p)
		if e != api.OK || f != api.OK || least > most {
			t.Fatal("P27.3:", least, most)
		}
		used, writes, reads := effect.Used(p), effect.Writes(p), effect.Reads(p)
		for range 4 {
			start := edge(r)
			o, e := typing.Run(p, start, most)
			if e == api.ErrFuel {
				t.Fatal("P27.5: Most is not enough:", most, p)
			}
			if least > 0 {
				if _, e := typing.Run(p, start, least-1); e == api.OK {
					t.Fatal("P27.5: less than Least is enough:", least, p)
				}
			}
			other := edge(r) // with the same first values of what is read
			for _, name := range reads {
				v := values(start.Headers, name)
				i := slices.IndexFunc(other.Headers, func(h api.Header) bool { return h.Name == name })
				switch {
				case len(v) == 0:
					other.Headers = slices.DeleteFunc(other.Headers, func(h api.Header) bool { return h.Name == name })
				case i >= 0:
					other.Headers[i].Value = v[0]
				default:
					other.Headers = append(other.Headers, api.Header{Name: name, Value: v[0]})
				}
			}
			if effect.ReadsStatus(p) {
				other.Status = start.Status
			}
			o2, e2 := typing.Run(p, other, most)
			if e != e2 || !slices.Equal(o.Logs, o2.Logs) || o.End != o2.End || o.Text != o2.Text {
				t.Fatal("P27.7:", p, start, other)
			}
			if e != api.OK {
				continue
			}
			kept := func(l []api.Header) []api.Header {
				return slices.DeleteFunc(slices.Clone(l), func(h api.Header) bool { return slices.Contains(writes, h.Name) })
			}
			if !slices.Equal(kept(start.Headers), kept(o.Edge.Headers)) || o.Edge.Status != start.Status && !slices.Contains(used, api.EfStatus) || len(o.Logs) > 0 && !slices.Contains(used, api.EfLog) || o.End == api.EnDenied && !slices.Contains(used, api.EfDeny) || o.End == api.EnReply && !slices.Contains(used, api.EfReply) {
				t.Fatal("P27.6:", p, start, o)
			}
			if effect.Ends(p) {
				ends++
				if o.End == api.EnRun {
					t.Fatal("P27.6: a program does not end:", p, o)
				}
			}
		}
	}
	if ends == 0 {
		t.Error("no program always ends")
	}
}

func TestIndependence(t *testing.T) {
	r := rand.New(rand.NewSource(2))
	met := 0
	for range 6000 {
		p, q := program(t, r, ""), program(t, r, "")
		if !effect.Apart(p, q) || len(effect.Used(p)) == 0 || len(effect.Used(q)) == 0 {
			continue
		}
		start := edge(r)
		const most = 1 << 30
		alone, e := typing.Run(p, start, most)
		other, f := typing.Run(q, start, most)
		if e != api.OK || f != api.OK {
			continue
		}
		met++
		second, f := typing.Run(q, alone.Edge, most)
		first, e := typing.Run(p, other.Edge, most)
		if e != api.OK || f != api.OK || !slices.Equal(second.Logs, other.Logs) || !slices.Equal(first.Logs, alone.Logs) || second.Edge.Status != first.Edge.Status {
			t.Fatal("P27.8:", p, q, start)
		}
		for _, name := range []string{"a", "b", "c", "d"} {
			if !reflect.DeepEqual(values(first.Edge.Headers, name), values(second.Edge.Headers, name)) {
				t.Fatal("P27.8: the header", name, p, q, start)
			}
		}
	}
	if met < 50 {
		t.Error("too few programs are apart:", met)
	}
}
