package compile_test

import (
	"math"
	"math/rand"
	"reflect"
	"slices"
	"strings"
	"testing"

	"weirgate/api"
	"weirgate/compile"
	"weirgate/hash"
	"weirgate/parser"
	"weirgate/typing"
	"weirgate/wire"
)

func parse(t *testing.T, s string) api.Program {
	t.Helper()
	x, p := parser.Parse(s)
	y, q := typing.Check(x)
	if p.E != api.OK || q.E != api.OK {
		t.Fatalf("%.200q: %v %v", s, p, q)
	}
	return y.Programs[0]
}

func code(l ...api.Instr) api.Module { return api.Module{Code: l} }

func op(op, a int) api.Instr         { return api.Instr{Op: op, A: a} }
func ops(op int, s string) api.Instr { return api.Instr{Op: op, S: s} }

func example() api.Module {
	return code(op(api.CdStep, 0), op(api.PxNumber, 1), op(api.CdStore, 0), op(api.CdStep, 0), op(api.PxName, 0), op(api.PxNumber, 2), op(api.PxLess, 0), op(api.CdUnless, 13),
		op(api.CdStep, 0), ops(api.PxText, "a"), op(api.CdLog, 0), op(api.CdForget, 1), op(api.CdJump, 14), op(api.CdForget, 1))
}

func TestCompile(t *testing.T) {
	m, e := compile.Compile(parse(t, `program p { let x = 1; if x < 2 { log "a"; } }`))
	want := example()
	want.Name = "p"
	if e != api.OK || !reflect.DeepEqual(m, want) {
		t.Error("P28.1: the example:", m, e)
	}
	m, e = compile.Compile(parse(t, `program q effects log, reads { let x = 5; repeat 7 { let y = header "h" + "b"; set x = -x; set header "g" = y; } set status = x % 2; if x in (1, 2, 3) { deny "d"; } else { let z = not true; reply "r"; } }`))
	want = api.Module{Name: "q", Effects: []int{api.EfReads, api.EfLog}, Code: []api.Instr{
		op(api.CdStep, 0), op(api.PxNumber, 5), op(api.CdStore, 0),
		op(api.CdStep, 0), op(api.CdLoop, 7), op(api.CdTurn, 20),
		op(api.CdStep, 0), ops(api.PxHeader, "h"), ops(api.PxText, "b"), op(api.PxAdd, 0), op(api.CdStore, 1),
		op(api.CdStep, 0), op(api.PxName, 0), op(api.PxNeg, 0), op(api.CdStore, 0),
		op(api.CdStep, 0), op(api.PxName, 1), ops(api.CdPutHeader, "g"),
		op(api.CdForget, 1), op(api.CdJump, 5),
		op(api.CdStep, 0), op(api.PxName, 0), op(api.PxNumber, 2), op(api.PxMod, 0), op(api.CdPutStatus, 0),
		op(api.CdStep, 0), op(api.PxName, 0), op(api.PxNumber, 1), op(api.PxNumber, 2), op(api.PxNumber, 3), op(api.PxIn, 4), op(api.CdUnless, 37),
		op(api.CdStep, 0), ops(api.PxText, "d"), op(api.CdDeny, 0), op(api.CdForget, 1), op(api.CdJump, 45),
		op(api.CdStep, 0), op(api.PxTrue, 0), op(api.PxNot, 0), op(api.CdStore, 1),
		op(api.CdStep, 0), ops(api.PxText, "r"), op(api.CdReply, 0), op(api.CdForget, 1),
	}}
	if e != api.OK || !reflect.DeepEqual(m, want) {
		t.Errorf("P28.1:\n%v\n%v %d", m, want, e)
	}
	if compile.Check(m) != api.OK {
		t.Error("P28.5: Compile is not accepted")
	}
	if m, e := compile.Compile(api.Program{Name: "e"}); e != api.OK || !reflect.DeepEqual(m, api.Module{Name: "e"}) {
		t.Error("P28.1: no statements:", m, e)
	}
	p := parse(t, `program p effects log { log "a"; }`)
	m, _ = compile.Compile(p)
	m.Effects[0] = 9
	if p.Effects[0] != api.EfLog {
		t.Error("P28.1: memory is shared")
	}
}

func TestLimit(t *testing.T) {
	stmt := parse(t, `program p { log "a"; }`).Code // three instructions
	repeat := parse(t, "program p { repeat 5 { } }").Code
	p := api.Program{Name: "p", Code: slices.Concat(slices.Repeat(stmt, (api.MaxInstrs-7)/3), repeat, parse(t, `program p { log "a"; }`).Code[:0])}
	n := 3*((api.MaxInstrs-7)/3) + 5
	for n+3 <= api.MaxInstrs {
		p.Code, n = append(p.Code, stmt...), n+3
	}
	m, e := compile.Compile(p)
	if e != api.OK || len(m.Code) != n || compile.Check(m) != api.OK {
		t.Error("P28.1: nearly as much code as possible:", n, e)
	}
	if m, e := compile.Compile(api.Program{Name: "p", Code: append(slices.Clone(p.Code), stmt...)}); e != api.ErrLimit || !reflect.DeepEqual(m, api.Module{}) {
		t.Error("P28.1: too much code:", e)
	}
	full := code(slices.Repeat([]api.Instr{op(api.CdStep, 0)}, api.MaxInstrs)...)
	if compile.Check(full) != api.OK {
		t.Error("P28.2: as much code as possible")
	}
	full.Code = append(full.Code, op(api.CdStep, 0))
	if compile.Check(full) != api.ErrCode {
		t.Error("P28.2: too much code")
	}
	// Deep stacks, and many places that have them.
	deep := code()
	half := api.MaxInstrs / 4
	for range half {
		deep.Code = append(deep.Code, op(api.PxTrue, 0))
	}
	for range half {
		deep.Code = append(deep.Code, op(api.CdUnless, 3*half-1))
	}
	if compile.Check(deep) != api.ErrCode {
		t.Error("P28.2: different stacks at one place")
	}
	loops := code()
	for range half {
		loops.Code = append(loops.Code, op(api.CdLoop, 1))
	}
	loops.Code = append(loops.Code, op(api.CdJump, half+1))
	if compile.Check(loops) != api.ErrCode {
		t.Error("P28.2: open loops at the end")
	}
}

func TestCheckExamples(t *testing.T) {
	change := func(at int, x api.Instr) api.Module {
		m := example()
		m.Code[at] = x
		return m
	}
	long := strings.Repeat("x", api.MaxQuoted)
	for i, x := range []struct {
		m api.Module
		e api.Errno
	}{
		{example(), 0}, {change(2, op(api.CdStore, 1)), 280}, {change(1, ops(api.PxText, "a")), 280}, {change(12, op(api.CdJump, 7)), 280}, {code(op(api.PxTrue, 0)), 280}, {code(op(api.CdLoop, 3), op(api.CdTurn, 3), op(api.CdJump, 1)), 0},
		{code(op(api.CdLoop, 0), op(api.CdTurn, 3), op(api.CdJump, 1), op(api.CdLoop, 0), op(api.CdJump, 1)), 280},
		{code(), 0}, {api.Module{Name: long, Effects: []int{1, 6}}, 0}, {api.Module{Name: long + "x"}, 280}, {api.Module{Effects: []int{1, 1}}, 280}, {api.Module{Effects: []int{2, 1}}, 280}, {api.Module{Effects: []int{0}}, 280}, {api.Module{Effects: []int{7}}, 280},
		{code(op(0, 0)), 280}, {code(op(99, 0)), 280}, {code(op(-1, 0)), 280}, {code(op(api.CdStep, 1)), 280}, {code(ops(api.CdStep, "x")), 280}, {code(op(api.CdJump, 1)), 0}, {code(op(api.CdJump, 0)), 280}, {code(op(api.CdJump, 2)), 280}, {code(op(api.CdJump, -1)), 280}, {code(op(api.CdJump, 2), op(api.CdStep, 0)), 280},
		{code(op(api.CdJump, 1), op(api.CdStep, 0)), 0}, {code(api.Instr{Op: api.CdJump, A: 1, S: "x"}), 280}, {code(ops(api.PxText, "a"), op(api.CdDeny, 0)), 0}, {code(ops(api.PxText, "a"), op(api.CdDeny, 0), op(api.PxTrue, 0)), 280}, {code(op(api.PxTrue, 0), op(api.CdDeny, 0)), 280}, {code(op(api.CdReply, 0)), 280},
		{code(op(api.PxTrue, 0), op(api.CdUnless, 2)), 0}, {code(op(api.PxTrue, 0), op(api.CdUnless, 1)), 280}, {code(op(api.PxTrue, 0), op(api.CdUnless, 3)), 280}, {code(op(api.PxNumber, 1), op(api.CdUnless, 2)), 280}, {code(op(api.CdUnless, 1)), 280},
		{code(op(api.CdTurn, 1)), 280}, {code(op(api.CdLoop, 0), op(api.CdTurn, 2)), 280}, {code(op(api.CdLoop, 0), op(api.CdTurn, 0)), 280}, {code(op(api.CdLoop, 1000), op(api.CdTurn, 3), op(api.CdJump, 1)), 0}, {code(op(api.CdLoop, 1001), op(api.CdTurn, 3), op(api.CdJump, 1)), 280}, {code(op(api.CdLoop, -1), op(api.CdTurn, 3), op(api.CdJump, 1)), 280}, {code(op(api.CdLoop, 1)), 280},
		{code(ops(api.CdLoop, "x"), op(api.CdTurn, 3), op(api.CdJump, 1)), 280}, {code(op(api.CdLoop, 0), api.Instr{Op: api.CdTurn, A: 3, S: "x"}, op(api.CdJump, 1)), 280}, {code(op(api.CdLoop, 0), op(api.CdTurn, 4), op(api.PxTrue, 0), op(api.CdJump, 1)), 280}, {code(op(api.CdLoop, 0), op(api.CdTurn, 5), op(api.PxTrue, 0), op(api.CdStore, 0), op(api.CdJump, 1)), 280},
		{code(op(api.CdLoop, 0), op(api.CdTurn, 6), op(api.PxTrue, 0), op(api.CdStore, 0), op(api.CdForget, 0), op(api.CdJump, 1)), 0}, {code(op(api.CdForget, 0)), 0}, {code(op(api.CdForget, 1)), 280}, {code(op(api.CdForget, -1)), 280}, {code(ops(api.CdForget, "x")), 280},
		{code(op(api.CdStore, 0)), 280}, {code(op(api.PxTrue, 0), op(api.CdStore, 0)), 0}, {code(op(api.PxTrue, 0), op(api.CdStore, 1)), 280}, {code(op(api.PxTrue, 0), op(api.CdStore, -1)), 280}, {code(op(api.PxTrue, 0), api.Instr{Op: api.CdStore, S: "x"}), 280}, {code(op(api.PxTrue, 0), op(api.CdStore, 0), op(api.PxNumber, 1), op(api.CdStore, 0)), 280}, {code(op(api.PxTrue, 0), op(api.CdStore, 0), op(api.PxFalse, 0), op(api.CdStore, 0)), 0},
		{code(op(api.PxNumber, 999999999999999999), op(api.CdStore, 0)), 0}, {code(op(api.PxNumber, 1000000000000000000), op(api.CdStore, 0)), 280}, {code(op(api.PxNumber, -1), op(api.CdStore, 0)), 280}, {code(api.Instr{Op: api.PxNumber, S: "1"}, op(api.CdStore, 0)), 280}, {code(ops(api.PxText, long), op(api.CdLog, 0)), 0}, {code(ops(api.PxText, long+"x"), op(api.CdLog, 0)), 280}, {code(api.Instr{Op: api.PxText, A: 1}, op(api.CdLog, 0)), 280},
		{code(ops(api.PxHeader, long), op(api.CdLog, 0)), 0}, {code(ops(api.PxHeader, long+"x"), op(api.CdLog, 0)), 280}, {code(api.Instr{Op: api.PxHeader, A: 1}, op(api.CdLog, 0)), 280}, {code(op(api.PxName, 0), op(api.CdStore, 0)), 280}, {code(op(api.PxTrue, 0), op(api.CdStore, 0), op(api.PxName, 0), op(api.CdStore, 1)), 0}, {code(op(api.PxTrue, 0), op(api.CdStore, 0), op(api.PxName, -1), op(api.CdStore, 1)), 280}, {code(op(api.PxTrue, 0), op(api.CdStore, 0), api.Instr{Op: api.PxName, S: "x"}, op(api.CdStore, 1)), 280},
		{code(op(api.PxTrue, 1), op(api.CdStore, 0)), 280}, {code(ops(api.PxFalse, "x"), op(api.CdStore, 0)), 280}, {code(op(api.PxStatus, 1), op(api.CdStore, 0)), 280}, {code(op(api.PxStatus, 0), op(api.CdPutStatus, 0)), 0}, {code(op(api.PxStatus, 0), op(api.CdPutStatus, 1)), 280}, {code(op(api.PxTrue, 0), op(api.CdPutStatus, 0)), 280}, {code(op(api.PxStatus, 0), ops(api.CdPutStatus, "x")), 280},
		{code(ops(api.PxText, "a"), ops(api.CdPutHeader, long)), 0}, {code(ops(api.PxText, "a"), ops(api.CdPutHeader, long+"x")), 280}, {code(ops(api.PxText, "a"), op(api.CdPutHeader, 1)), 280}, {code(op(api.PxTrue, 0), op(api.CdPutHeader, 0)), 280}, {code(ops(api.PxText, "a"), op(api.CdLog, 1)), 280}, {code(ops(api.PxText, "a"), ops(api.CdLog, "x")), 280},
		{code(op(api.PxTrue, 0), op(api.PxTrue, 0), op(api.PxIn, 2), op(api.CdStore, 0)), 0}, {code(op(api.PxTrue, 0), op(api.PxIn, 1), op(api.CdStore, 0)), 280}, {code(op(api.PxTrue, 0), op(api.PxTrue, 0), op(api.PxIn, 3), op(api.CdStore, 0)), 280}, {code(op(api.PxTrue, 0), op(api.PxTrue, 0), op(api.PxIn, math.MaxInt), op(api.CdStore, 0)), 280}, {code(op(api.PxNumber, 0), op(api.PxTrue, 0), op(api.PxIn, 2), op(api.CdStore, 0)), 280}, {code(op(api.PxTrue, 0), op(api.PxTrue, 0), api.Instr{Op: api.PxIn, A: 2, S: "x"}, op(api.CdStore, 0)), 280},
		{code(op(api.PxTrue, 0), op(api.PxTrue, 0), op(api.PxAdd, 0), op(api.CdStore, 0)), 280}, {code(ops(api.PxText, "a"), ops(api.PxText, "a"), op(api.PxAdd, 0), op(api.CdLog, 0)), 0}, {code(op(api.PxNumber, 0), op(api.PxNumber, 0), op(api.PxAdd, 0), op(api.CdLog, 0)), 280}, {code(op(api.PxNumber, 0), op(api.PxAdd, 0), op(api.CdPutStatus, 0)), 280}, {code(op(api.PxNumber, 0), op(api.PxNumber, 0), op(api.PxSub, 1), op(api.CdPutStatus, 0)), 280},
		{code(op(api.PxNumber, 0), op(api.PxNeg, 0), op(api.CdPutStatus, 0)), 0}, {code(op(api.PxTrue, 0), op(api.PxNeg, 0), op(api.CdPutStatus, 0)), 280}, {code(op(api.PxTrue, 0), op(api.PxTrue, 0), op(api.PxLess, 0), op(api.CdStore, 0)), 280}, {code(op(api.PxTrue, 0), op(api.PxTrue, 0), op(api.PxEq, 0), op(api.CdStore, 0)), 0}, {code(op(api.PxNumber, 0), op(api.PxNumber, 0), op(api.PxAnd, 0), op(api.CdStore, 0)), 280},
	} {
		if e := compile.Check(x.m); e != x.e {
			t.Error("P28.2:", i, e)
		}
	}
	var slots api.Module
	for i := range api.MaxSlots + 1 {
		slots.Code = append(slots.Code, op(api.PxTrue, 0), op(api.CdStore, i))
	}
	if compile.Check(slots) != api.ErrCode {
		t.Error("P28.2: 201 slots")
	}
	slots.Code = slots.Code[:2*api.MaxSlots]
	if compile.Check(slots) != api.OK {
		t.Error("P28.2: 200 slots")
	}
}

// typed is the types before an instruction.
type typed struct{ stack, slots, loops []int }

func same(a, b typed) bool {
	return slices.Equal(a.stack, b.stack) && slices.Equal(a.slots, b.slots) && slices.Equal(a.loops, b.loops)
}

// slowCheck goes by the table of the chapter.
func slowCheck(m api.Module) bool {
	before := map[int]typed{0: {}}
	for at, x := range m.Code {
		t, ok := before[at]
		if !ok {
			return false
		}
		next, far, good := slowInstr(x, at, t, len(m.Code))
		if !good {
			return false
		}
		leads := map[int][]typed{}
		if next != nil {
			leads[at+1] = append(leads[at+1], *next)
		}
		if far != nil {
			if x.A < 0 || x.A > len(m.Code) || x.A <= at && (x.Op != api.CdJump || m.Code[x.A].Op != api.CdTurn) {
				return false
			}
			leads[x.A] = append(leads[x.A], *far)
		}
		for to, l := range leads {
			for _, y := range l {
				if old, ok := before[to]; ok && !same(old, y) {
					return false
				}
				before[to] = y
			}
		}
	}
	end, ok := before[len(m.Code)]
	return !ok || len(end.stack)+len(end.loops) == 0
}

func slowInstr(x api.Instr, at int, t typed, size int) (next, far *typed, ok bool) {
	pop := func(kinds ...int) bool {
		n := len(t.stack) - len(kinds)
		good := n >= 0 && slices.Equal(t.stack[n:], kinds)
		if good {
			t.stack = slices.Clip(t.stack[:n])
		}
		return good
	}
	top := 0
	if len(t.stack) > 0 {
		top = t.stack[len(t.stack)-1]
	}
	push := func(kind int) { t.stack = append(slices.Clone(t.stack), kind) }
	const N, S, B = api.TyNumber, api.TyText, api.TyBool
	a, s := false, false // which fields have a meaning
	good := true
	switch x.Op {
	case api.PxNumber:
		a, good = true, x.A >= 0 && x.A < 1000000000000000000
		push(N)
	case api.PxText, api.PxHeader:
		s, good = true, len(x.S) <= 200
		push(S)
	case api.PxName:
		a = true
		if good = x.A >= 0 && x.A < len(t.slots); good {
			push(t.slots[x.A])
		}
	case api.PxTrue, api.PxFalse:
		push(B)
	case api.PxStatus:
		push(N)
	case api.PxNeg:
		good = pop(N)
		push(N)
	case api.PxNot:
		good = pop(B)
		push(B)
	case api.PxAdd:
		if good = pop(N, N); good {
			push(N)
		} else {
			good = pop(S, S)
			push(S)
		}
	case api.PxSub, api.PxMul, api.PxDiv, api.PxMod:
		good = pop(N, N)
		push(N)
	case api.PxLess, api.PxMore, api.PxAtMost, api.PxAtLeast:
		good = pop(N, N) || pop(S, S)
		push(B)
	case api.PxEq, api.PxNe:
		good = pop(N, N) || pop(S, S) || pop(B, B)
		push(B)
	case api.PxAnd, api.PxOr:
		good = pop(B, B)
		push(B)
	case api.PxIn:
		a = true
		good = x.A >= 2 && x.A <= len(t.stack) && pop(slices.Repeat([]int{top}, x.A)...)
		push(B)
	case api.CdStep:
	case api.CdStore:
		a = true
		good = top != 0 && pop(top) && (x.A >= 0 && x.A < len(t.slots) && t.slots[x.A] == top || x.A == len(t.slots) && x.A < api.MaxSlots)
		if good && x.A == len(t.slots) {
			t.slots = append(slices.Clone(t.slots), top)
		}
	case api.CdPutHeader:
		s, good = true, len(x.S) <= 200 && pop(S)
	case api.CdLog, api.CdDeny, api.CdReply:
		good = pop(S)
	case api.CdPutStatus:
		good = pop(N)
	case api.CdJump:
		return nil, &t, x.S == ""
	case api.CdUnless:
		good = pop(B)
		return &t, &t, good && x.S == ""
	case api.CdLoop:
		a, good = true, x.A >= 0 && x.A <= 1000
		t.loops = append(slices.Clone(t.loops), at)
	case api.CdTurn:
		if len(t.loops) == 0 || x.S != "" {
			return nil, nil, false
		}
		out := t
		out.loops = t.loops[:len(t.loops)-1]
		return &t, &out, true
	case api.CdForget:
		a = true
		if good = x.A >= 0 && x.A <= len(t.slots); good {
			t.slots = slices.Clip(t.slots[:x.A])
		}
	default:
		return nil, nil, false
	}
	return &t, nil, good && (a || x.A == 0) && (s || x.S == "")
}

func TestRandom(t *testing.T) {
	r := rand.New(rand.NewSource(1))
	refused, accepted := 0, 0
	for range 1200 {
		p := program(t, r, []string{"", "effects log, reads "}[r.Intn(2)])
		m, e := compile.Compile(p)
		if e != api.OK || compile.Check(m) != api.OK || !slowCheck(m) {
			t.Fatal("P28.5: Compile is not accepted:", p, m)
		}
		b := compile.Encode(m)
		if back, e := compile.Decode(b); e != api.OK || !reflect.DeepEqual(back, m) {
			t.Fatal("P28.6:", m, back, e)
		}
		for range 15 {
			c := m
			c.Code = slices.Clone(m.Code)
			for range 1 + r.Intn(2) {
				if len(c.Code) == 0 {
					break
				}
				i := r.Intn(len(c.Code))
				switch r.Intn(5) {
				case 0:
					c.Code[i].A += r.Intn(5) - 2
				case 1:
					c.Code[i].Op = r.Intn(45)
				case 2:
					c.Code = slices.Delete(c.Code, i, i+1)
				case 3:
					c.Code = slices.Insert(c.Code, i, c.Code[r.Intn(len(c.Code))])
				default:
					c.Code[i].A = r.Intn(len(c.Code) + 2)
				}
			}
			want := api.ErrCode
			if slowCheck(c) {
				want = api.OK
				accepted++
			} else {
				refused++
			}
			if e := compile.Check(c); e != want {
				t.Fatal("P28.2:", c, e, want)
			}
			_, e := compile.Decode(compile.Encode(c))
			if (e == api.OK) != (want == api.OK) {
				t.Fatal("P28.3: Decode does not check:", c)
			}
		}
	}
	if refused < 1000 || accepted < 1000 {
		t.Error("the test is one-sided:", refused, accepted)
	}
}

func TestEncode(t *testing.T) {
	m := example()
	m.Name, m.Effects = "n", []int{2, 4}
	texts := []string{"n"}
	var numbers []int
	for _, x := range m.Code {
		texts, numbers = append(texts, x.S), append(numbers, x.Op, x.A)
	}
	want := slices.Concat(wire.Strings(texts), wire.Ints(m.Effects), wire.Ints(numbers))
	b := compile.Encode(m)
	if !slices.Equal(b, want) || compile.Name(m) != hash.Of(28, string(want)) {
		t.Error("P28.3: Encode")
	}
	bad := [][]byte{nil, b[:len(b)-1], append(slices.Clone(b), 0), slices.Concat(wire.Strings(nil), wire.Ints(nil), wire.Ints(nil)), slices.Concat(wire.Strings(texts), wire.Ints(m.Effects), wire.Ints(numbers[2:])), slices.Concat(wire.Strings(texts), wire.Ints(m.Effects), wire.Ints(numbers[1:])), slices.Concat(wire.Strings(texts[1:]), wire.Ints(m.Effects), wire.Ints(numbers)), slices.Concat(wire.Strings(texts), wire.Ints([]int{4, 2}), wire.Ints(numbers)), wire.Strings(texts), {255}, append([]byte{130, 0}, b...)}
	for i := range b {
		bad = append(bad, b[:i])
	}
	for i, x := range bad {
		if y, e := compile.Decode(x); e != api.ErrEncoding || !reflect.DeepEqual(y, api.Module{}) {
			t.Error("P28.3: Decode:", i, e)
		}
	}
	if y, e := compile.Decode(compile.Encode(api.Module{})); e != api.OK || !reflect.DeepEqual(y, api.Module{}) {
		t.Error("P28.6: the empty module:", y, e)
	}
	r := rand.New(rand.NewSource(3))
	for range 3000 {
		x := slices.Clone(b)
		x[r.Intn(len(x))] ^= 1 << r.Intn(8)
		if y, e := compile.Decode(x); e == api.OK && (!slices.Equal(compile.Encode(y), x) || compile.Check(y) != api.OK) {
			t.Fatal("P28.6: Decode of other bytes:", y)
		}
	}
}
