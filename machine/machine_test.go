package machine_test

import (
	"math"
	"math/rand"
	"reflect"
	"slices"
	"strings"
	"testing"

	"weirgate/api"
	"weirgate/compile"
	"weirgate/machine"
	"weirgate/parser"
	"weirgate/typing"
	"weirgate/wire"
)

func parse(t *testing.T, code string) (api.Program, api.Module) {
	t.Helper()
	x, p := parser.Parse("program p { " + code + " }")
	y, q := typing.Check(x)
	if p.E != api.OK || q.E != api.OK {
		t.Fatalf("%.200q: %v %v", code, p, q)
	}
	m, e := compile.Compile(y.Programs[0])
	if e != api.OK {
		t.Fatal("Compile:", e)
	}
	return y.Programs[0], m
}

func start() api.Edge {
	return api.Edge{Headers: []api.Header{{Name: "a", Value: "!"}, {Name: "b", Value: "x"}, {Name: "a", Value: "?"}}, Status: 200}
}

func TestExample(t *testing.T) {
	_, m := parse(t, `let x = 1; if x < 2 { log "a"; }`)
	c := machine.Begin(start())
	if !reflect.DeepEqual(c, api.Cpu{Out: api.Outcome{Edge: start()}}) {
		t.Error("P29.1:", c)
	}
	if s := machine.Step(m, c); s.At != 1 || s.Spent != 1 || s.Over {
		t.Error("P29.2:", s)
	}
	if g := machine.Go(m, c, 2); g.At != 3 || g.Spent != 2 || g.Over || g.E != api.OK || len(g.Stack) != 0 || !slices.Equal(g.Slots, []api.Value{{Type: api.TyNumber, N: 1}}) {
		t.Error("P29.3:", g)
	}
	o, e := machine.Run(m, start(), 8)
	if e != api.OK || !reflect.DeepEqual(o, api.Outcome{Edge: start(), Logs: []string{"a"}}) {
		t.Error("P29.4:", o, e)
	}
	if o, e := machine.Run(m, start(), 7); e != api.ErrFuel || !reflect.DeepEqual(o, api.Outcome{}) {
		t.Error("P29.4:", o, e)
	}
}

func TestEmptyModule(t *testing.T) {
	m := api.Module{}
	c := machine.Begin(start())
	if c.Over || !machine.Valid(m, c) {
		t.Error("P29.1: no instructions:", c)
	}
	want := c
	want.Over = true
	if s := machine.Step(m, c); !reflect.DeepEqual(s, want) {
		t.Error("P29.2: no instructions:", s)
	}
	if g := machine.Go(m, c, 0); !reflect.DeepEqual(g, want) || !machine.Valid(m, g) {
		t.Error("P29.3: no instructions:", g)
	}
	if s := machine.Step(m, want); !reflect.DeepEqual(s, want) {
		t.Error("P29.2: a machine that is over:", s)
	}
	if o, e := machine.Run(m, start(), 0); e != api.OK || !reflect.DeepEqual(o.Edge, start()) {
		t.Error("P29.4: no instructions:", o, e)
	}
}

func TestErrors(t *testing.T) {
	for _, x := range []struct {
		code string
		cost int
		e    api.Errno
	}{
		{"let x = 1 / 0;", 4, api.ErrZero}, {"let x = 1 % 0;", 4, api.ErrZero}, {"let x = 999999999999999999 * 2;", 4, api.ErrValue}, {"set status = 99;", 2, api.ErrValue}, {`log "a"; let x = -999999999999999999 - 999999999999999999;`, 7, api.ErrValue},
		{`repeat 101 { log "a"; }`, 1 + 101*3, api.ErrValue}, {`let t = "` + strings.Repeat("x", 150) + `"; repeat 5 { set t = t + t; }`, 2 + 1 + 5*5, api.ErrValue},
	} {
		_, m := parse(t, x.code)
		c := machine.Go(m, machine.Begin(start()), 100000)
		want := api.Cpu{Over: true, E: x.e, Spent: x.cost, Out: api.Outcome{Edge: api.Edge{Status: 100}}}
		if !reflect.DeepEqual(c, want) || !machine.Valid(m, c) {
			t.Errorf("P29.2: %.50s: %v", x.code, c)
		}
		if o, e := machine.Run(m, start(), 100000); e != x.e || !reflect.DeepEqual(o, api.Outcome{}) {
			t.Errorf("P29.4: %.50s: %v %d", x.code, o, e)
		}
		if c := machine.Go(m, machine.Begin(start()), x.cost-1); c.Over || c.E != api.OK || c.Spent != x.cost-1 {
			t.Errorf("P29.3: %.50s: %v", x.code, c)
		}
	}
	_, m := parse(t, `set header "h" = "v"; deny "no"; log "a";`)
	c := machine.Go(m, machine.Begin(api.Edge{Status: 300}), 99)
	want := api.Cpu{Over: true, Spent: 4, Out: api.Outcome{Edge: api.Edge{Headers: []api.Header{{Name: "h", Value: "v"}}, Status: 300}, End: api.EnDenied, Text: "no"}}
	if !reflect.DeepEqual(c, want) || !reflect.DeepEqual(machine.Step(m, c), c) || !reflect.DeepEqual(machine.Go(m, c, 99), c) {
		t.Error("P29.2: a run that ends:", c)
	}
}

func TestMostSpent(t *testing.T) {
	_, m := parse(t, `log "a";`)
	c := machine.Begin(start())
	c.Spent = api.MaxSpent - 1
	if g := machine.Go(m, c, math.MaxInt); g.Over || g.Spent != api.MaxSpent || g.At != 1 {
		t.Error("P29.3: MaxSpent:", g)
	}
	c.Spent = api.MaxSpent
	if g := machine.Go(m, c, math.MaxInt); !reflect.DeepEqual(g, c) {
		t.Error("P29.3: MaxSpent:", g)
	}
	_, m = parse(t, `repeat 0 { }`)
	c = machine.Go(m, machine.Begin(start()), 1)
	if !c.Over || c.Spent != 1 {
		t.Error("P29.3: what costs nothing is done:", c)
	}
}

func TestRandom(t *testing.T) {
	r := rand.New(rand.NewSource(1))
	kinds := map[api.Errno]int{}
	for range 500 {
		p := program(t, r, "")
		m, e := compile.Compile(p)
		if e != api.OK {
			t.Fatal("Compile:", e)
		}
		e1 := edge(r)
		old := slices.Clone(e1.Headers)
		begin := machine.Begin(e1)
		full := machine.Go(m, begin, 1<<30)
		kinds[full.E]++
		for _, most := range []int{0, 1, full.Spent / 2, full.Spent - 1, full.Spent, full.Spent + 1, r.Intn(full.Spent + 1), math.MaxInt} {
			if most < 0 {
				continue
			}
			o, e := machine.Run(m, e1, most)
			o2, e2 := typing.Run(p, e1, most)
			if e != e2 || !reflect.DeepEqual(o, o2) {
				t.Fatal("P28.4, P29.7:", p, m, most, o, e, o2, e2)
			}
		}
		if !slices.Equal(old, e1.Headers) {
			t.Fatal("Run has changed its argument")
		}
		half := machine.Go(m, begin, r.Intn(full.Spent+1))
		if g := machine.Go(m, half, 1<<30); !reflect.DeepEqual(g, full) || !machine.Valid(m, half) {
			t.Fatal("P29.8: Go and Go:", m, half)
		}
		c := begin
		for n := 0; !c.Over; n++ {
			if !machine.Valid(m, c) {
				t.Fatal("P29.8: a machine is not valid:", m, c)
			}
			if n%3 == 0 {
				b := machine.Save(c)
				l, e := machine.Load(m, b)
				if e != api.OK || !reflect.DeepEqual(l, c) {
					t.Fatal("P29.6: Load of Save:", c, l, e)
				}
				if n%9 == 0 {
					if g := machine.Go(m, l, 1<<30); !reflect.DeepEqual(g, full) {
						t.Fatal("P29.8: Load goes on:", c)
					}
				}
			}
			next := machine.Step(m, c)
			if next.Spent-c.Spent > 1 || next.Spent < c.Spent {
				t.Fatal("P29.2: what a step costs:", c, next)
			}
			for _, x := range []*api.Cpu{&c, &next} { // results share no memory
				if len(x.Stack) > 0 {
					keep := x.Stack[0]
					x.Stack[0].N = 77
					x.Stack[0] = keep
				}
			}
			c = next
		}
		if !reflect.DeepEqual(c, full) || !machine.Valid(m, c) {
			t.Fatal("P29.3: Go is not Step after Step:", m, c, full)
		}
		l, e := machine.Load(m, machine.Save(c))
		if e != api.OK || !reflect.DeepEqual(l, c) {
			t.Fatal("P29.6: a machine that is over:", c, l, e)
		}
	}
	if kinds[api.OK] == 0 || kinds[api.ErrZero] == 0 || kinds[api.ErrValue] == 0 {
		t.Error("the test has not met all errors:", kinds)
	}
}

func TestMemory(t *testing.T) {
	_, m := parse(t, `let x = 1; repeat 3 { set header "a" = "y"; log "l"; set x = x + 1; }`)
	e := start()
	c := machine.Go(m, machine.Begin(e), 17)
	copy1 := machine.Go(m, c, 17)
	for range 12 {
		d := machine.Step(m, c)
		machine.Go(m, c, 99)
		if !reflect.DeepEqual(c, copy1) {
			t.Fatal("a call has changed its argument")
		}
		if len(d.Slots) > 0 {
			d.Slots[0].N = 99
		}
		if len(d.Loops) > 0 {
			d.Loops[0] = 99
		}
		if len(d.Out.Logs) > 0 {
			d.Out.Logs[0] = "z"
		}
		d.Out.Edge.Headers[0].Value = "z"
		if !reflect.DeepEqual(c, copy1) {
			t.Fatal("a result shares memory with an argument")
		}
		c = machine.Step(m, c)
		copy1 = machine.Step(m, copy1)
	}
	if !reflect.DeepEqual(e, start()) {
		t.Error("Begin shares memory")
	}
}

// stopped returns a machine that stands in a loop, with something on the stack, in a slot, and in logs.
func stopped(t *testing.T) (api.Module, api.Cpu) {
	_, m := parse(t, `let x = 5; let s = "q"; let b = true; log "l"; repeat 3 { set x = 1 + x; log "a" + s; }`)
	c := machine.Begin(start())
	for c.Spent < 13 || len(c.Stack) != 2 || c.Stack[0].Type != api.TyText {
		c = machine.Step(m, c)
		if c.Over {
			t.Fatal("the machine is over")
		}
	}
	return m, c
}

func TestValid(t *testing.T) {
	m, good := stopped(t)
	if !machine.Valid(m, good) || len(good.Slots) != 3 || len(good.Loops) != 1 || len(good.Out.Logs) == 0 {
		t.Fatal("P29.5: a valid machine:", good)
	}
	long := strings.Repeat("x", api.MaxValue+1)
	clone := func(c api.Cpu) api.Cpu { return machine.Go(m, c, c.Spent) }
	for i, change := range []func(c *api.Cpu){
		func(c *api.Cpu) { c.At++ }, func(c *api.Cpu) { c.At-- }, func(c *api.Cpu) { c.At = -1 }, func(c *api.Cpu) { c.At = len(m.Code) }, func(c *api.Cpu) { c.At = math.MaxInt }, func(c *api.Cpu) { c.Stack = c.Stack[:1] }, func(c *api.Cpu) { c.Stack = append(c.Stack, c.Stack[0]) }, func(c *api.Cpu) { c.Stack = nil },
		func(c *api.Cpu) { c.Stack[0].Type = api.TyNumber }, func(c *api.Cpu) { c.Stack[0] = api.Value{Type: api.TyNumber} }, func(c *api.Cpu) { c.Stack[0].N = 1 }, func(c *api.Cpu) { c.Stack[0].S = long }, func(c *api.Cpu) { c.Slots[0].S = "x" }, func(c *api.Cpu) { c.Slots[0].N = api.MaxNumber + 1 }, func(c *api.Cpu) { c.Slots[0].N = -api.MaxNumber - 1 }, func(c *api.Cpu) { c.Slots[0].N = math.MinInt },
		func(c *api.Cpu) { c.Slots[2].N = 2 }, func(c *api.Cpu) { c.Slots[2].N = -1 }, func(c *api.Cpu) { c.Slots[2].S = "x" }, func(c *api.Cpu) { c.Slots = c.Slots[:2] }, func(c *api.Cpu) { c.Slots = append(c.Slots, c.Slots[0]) }, func(c *api.Cpu) { c.Slots[0], c.Slots[1] = c.Slots[1], c.Slots[0] }, func(c *api.Cpu) { c.Slots[0].Type = 0 },
		func(c *api.Cpu) { c.Loops = nil }, func(c *api.Cpu) { c.Loops = []int{1, 1} }, func(c *api.Cpu) { c.Loops[0] = -1 }, func(c *api.Cpu) { c.Loops[0] = api.MaxRepeat + 1 }, func(c *api.Cpu) { c.E = api.ErrZero }, func(c *api.Cpu) { c.Spent = -1 }, func(c *api.Cpu) { c.Spent = api.MaxSpent + 1 }, func(c *api.Cpu) { c.Out.Edge.Status = 99 }, func(c *api.Cpu) { c.Out.Edge.Status = 600 },
		func(c *api.Cpu) { c.Out.Edge.Headers[1].Name = long }, func(c *api.Cpu) { c.Out.Edge.Headers[1].Value = long }, func(c *api.Cpu) { c.Out.Logs[0] = long }, func(c *api.Cpu) { c.Out.Logs = make([]string, api.MaxLogs+1) }, func(c *api.Cpu) { c.Out.Text = "x" }, func(c *api.Cpu) { c.Out.End = api.EnDenied }, func(c *api.Cpu) { c.Out.End = 3 }, func(c *api.Cpu) { c.Out.End = -1 }, func(c *api.Cpu) { c.Over = true },
	} {
		c := clone(good)
		change(&c)
		if machine.Valid(m, c) {
			t.Error("P29.5: a machine that is not valid:", i)
		}
		if l, e := machine.Load(m, machine.Save(c)); e != api.ErrEncoding || !reflect.DeepEqual(l, api.Cpu{}) {
			t.Error("P29.6: a machine that is not valid:", i, e)
		}
	}
	c := clone(good)
	c.Stack[0].S, c.Slots[0].N, c.Loops[0], c.Spent, c.Out.Edge.Status = strings.Repeat("x", api.MaxValue), -api.MaxNumber, api.MaxRepeat, api.MaxSpent, 599
	c.Out.Logs = make([]string, api.MaxLogs)
	if !machine.Valid(m, c) {
		t.Error("P29.5: a valid machine with great numbers")
	}
}

func TestValidOver(t *testing.T) {
	m, running := stopped(t)
	good := machine.Go(m, running, 1000)
	lost := api.Cpu{Over: true, E: api.ErrZero, Spent: 5, Out: api.Outcome{Edge: api.Edge{Status: 100}}}
	denied := api.Cpu{Over: true, Out: api.Outcome{Edge: start(), End: api.EnReply, Text: "x", Logs: []string{"y"}}}
	for i, c := range []api.Cpu{good, lost, denied} {
		if !c.Over || !machine.Valid(m, c) || !machine.Valid(api.Module{}, c) {
			t.Error("P29.5: a machine that is over:", i)
		}
	}
	for i, x := range []struct {
		c      api.Cpu
		change func(c *api.Cpu)
	}{
		{good, func(c *api.Cpu) { c.At = 1 }}, {good, func(c *api.Cpu) { c.Stack = running.Stack }}, {good, func(c *api.Cpu) { c.Slots = running.Slots }}, {good, func(c *api.Cpu) { c.Loops = running.Loops }}, {good, func(c *api.Cpu) { c.E = api.ErrZero }}, {lost, func(c *api.Cpu) { c.E = api.ErrFuel }}, {lost, func(c *api.Cpu) { c.E = -1 }}, {lost, func(c *api.Cpu) { c.Out.Edge.Status = 200 }},
		{lost, func(c *api.Cpu) { c.Out.Edge.Headers = start().Headers }}, {lost, func(c *api.Cpu) { c.Out.Logs = []string{""} }}, {lost, func(c *api.Cpu) { c.Out.End = api.EnDenied }}, {lost, func(c *api.Cpu) { c.Out.Text = "x" }}, {denied, func(c *api.Cpu) { c.Out.End = api.EnRun }}, {denied, func(c *api.Cpu) { c.Out.End = 3 }}, {denied, func(c *api.Cpu) { c.Spent = -1 }}, {denied, func(c *api.Cpu) { c.Out.Text = strings.Repeat("x", 4097) }},
	} {
		c := x.c
		x.change(&c)
		if machine.Valid(m, c) {
			t.Error("P29.5: a machine that is not valid:", i)
		}
	}
}

func TestSave(t *testing.T) {
	m, c := stopped(t)
	var numbers []int
	var texts []string
	for _, v := range append(slices.Clone(c.Stack), c.Slots...) {
		numbers, texts = append(numbers, v.Type, v.N), append(texts, v.S)
	}
	front := []int{c.At, c.Spent, 0, 0, 200, 0, 2, 3}
	parts := func(front, loops, numbers []int, texts, headers []string) []byte {
		return slices.Concat(wire.Ints(front), wire.Ints(loops), wire.Ints(numbers), wire.Strings(texts), wire.Strings(headers), wire.Strings(c.Out.Logs), wire.Bytes(""))
	}
	headers := []string{"a", "!", "b", "x", "a", "?"}
	b := machine.Save(c)
	if !slices.Equal(b, parts(front, c.Loops, numbers, texts, headers)) {
		t.Error("P29.6: Save")
	}
	set := func(i, n int) []int {
		l := slices.Clone(front)
		l[i] = n
		return l
	}
	for i, x := range [][]byte{
		nil, b[:len(b)-1], append(slices.Clone(b), 0), parts(front[:7], c.Loops, numbers, texts, headers), parts(append(slices.Clone(front), 0), c.Loops, numbers, texts, headers), parts(set(2, 2), c.Loops, numbers, texts, headers), parts(set(2, -1), c.Loops, numbers, texts, headers), parts(set(6, 3), c.Loops, numbers, texts, headers), parts(set(7, 2), c.Loops, numbers, texts, headers),
		parts(set(6, -1), c.Loops, numbers, texts, headers), parts(set(6, 99), c.Loops, numbers, texts, headers), parts(front, c.Loops, numbers[2:], texts, headers), parts(front, c.Loops, numbers[1:], texts, headers), parts(front, c.Loops, numbers, texts[1:], headers), parts(front, c.Loops, numbers, texts, headers[1:]), parts(set(0, 1), c.Loops, numbers, texts, headers),
	} {
		if l, e := machine.Load(m, x); e != api.ErrEncoding || !reflect.DeepEqual(l, api.Cpu{}) {
			t.Error("P29.6: Load:", i, e)
		}
	}
	if l, e := machine.Load(m, b); e != api.OK || !reflect.DeepEqual(l, c) {
		t.Error("P29.6: Load:", e)
	}
	for i := range b {
		if _, e := machine.Load(m, b[:i]); e != api.ErrEncoding {
			t.Error("P29.6: a part of a text:", i, e)
		}
	}
}
