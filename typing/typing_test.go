package typing_test

import (
	"fmt"
	"math"
	"reflect"
	"slices"
	"strings"
	"testing"

	"weirgate/api"
	"weirgate/parser"
	"weirgate/typing"
)

// check parses and types a source.
func check(t *testing.T, s string) (api.Typed, api.Problem) {
	t.Helper()
	x, p := parser.Parse(s)
	if p.E != api.OK {
		t.Fatalf("the source %.100q: %v", s, p)
	}
	return typing.Check(x)
}

func TestAmount(t *testing.T) {
	n18 := strings.Repeat("9", 18)
	for i, x := range []struct {
		number, unit string
		kind, want   int
		e            api.Errno
	}{
		{"5", "min", api.PcFresh, 300000, 0}, {"7", "ms", api.PcStale, 7, 0}, {"7", "s", api.PcDown, 7000, 0}, {"2", "h", api.PcNegative, 7200000, 0}, {"0", "h", api.PcFrom, 0, 0}, {"1099511627776", "ms", api.PcTo, api.MaxTime, 0},
		{"1099511627777", "ms", api.PcTo, 0, 2}, {"1099511628", "s", api.PcTo, 0, 2}, {"1099511627", "s", api.PcTo, 1099511627000, 0}, {n18, "h", api.PcFresh, 0, 2}, {"5", "", api.PcFresh, 0, 200}, {"5", "kb", api.PcFresh, 0, 200}, {n18, "d", api.PcFresh, 0, 200}, {"5", "S", api.PcFresh, 0, 200},
		{"5", "", api.PcCost, 5, 0}, {"5", "kb", api.PcCost, 5000, 0}, {"5", "mb", api.PcCost, 5000000, 0}, {"1073741824", "", api.PcCost, api.MaxPrice, 0}, {"1073741825", "", api.PcCost, 0, 2}, {"1074", "mb", api.PcCost, 0, 2}, {"1073", "mb", api.PcCost, 1073000000, 0}, {"5", "ms", api.PcCost, 0, 200}, {n18, "mb", api.PcCost, 0, 2},
		{"5", "", api.PcUses, 5, 0}, {"1073741824", "", api.PcUses, api.MaxUses, 0}, {"1073741825", "", api.PcUses, 0, 2}, {"5", "ms", api.PcUses, 0, 200}, {n18, "s", api.PcUses, 0, 200},
		{"5", "ms", api.PcPattern, 0, 201}, {"5", "", 0, 0, 201}, {"5", "", api.PcSites, 0, 201}, {"5", "", -1, 0, 201}, {"5", "", 18, 0, 201}, {"5", "d", api.PcVary, 0, 201},
	} {
		if n, e := typing.Amount(api.PAmount{Number: x.number, Unit: x.unit, At: 9}, x.kind); n != x.want || e != x.e {
			t.Error("P20.1:", i, n, e)
		}
	}
}

func TestPolicies(t *testing.T) {
	x, p := check(t, `policy acme { rule r { fresh 5 min; signed; } rule s { pattern "acme/x"; tags "b", "a"; stale 1 s; down 2 s; negative 3 s; cost 4 kb;
vary "h" in "z", "y" default "z"; vary "g" in "1"; program p; allow { pattern "acme/y"; from 1 ms; to 9 ms; clients "c", "b"; countries "fr", "de"; sites 10, 9; uses 3; } } }
policy bolt { } program p { } policy cart { rule r { allow { } } }`)
	if p != (api.Problem{}) || len(x.Policies) != 3 || len(x.Programs) != 1 {
		t.Fatal("P20.2:", x, p)
	}
	to := api.MaxTime + 1
	want := []api.Policy{
		{Customer: "acme", Rules: []api.Rule{
			{Name: "r", Pattern: "acme/**", Fresh: 300000, Signed: true, Allow: api.Cond{To: to}},
			{Name: "s", Pattern: "acme/x", Tags: []string{"a", "b"}, Stale: 1000, Down: 2000, Negative: 3000, Cost: 4000, Program: "p",
				Vary:  []api.Vary{{Header: "h", Values: []string{"y", "z"}, Default: "z"}, {Header: "g", Values: []string{"1"}}},
				Allow: api.Cond{From: 1, To: 9, Pattern: "acme/y", Clients: []string{"b", "c"}, Countries: []string{"de", "fr"}, Sites: []int{9, 10}, Uses: 3}},
		}},
		{Customer: "bolt"},
		{Customer: "cart", Rules: []api.Rule{{Name: "r", Pattern: "cart/**", Allow: api.Cond{To: to}}}},
	}
	if !reflect.DeepEqual(x.Policies, want) {
		t.Errorf("P20.3:\n%v\n%v", x.Policies, want)
	}
	tree, _ := parser.Parse(`policy a { rule r { tags "b", "a"; } }`)
	typing.Check(tree)
	if l := tree.Policies[0].Rules[0].Clauses[0].Texts; l[0] != "b" {
		t.Error("P20.3: Check has changed its argument")
	}
}

func TestPolicyProblems(t *testing.T) {
	rule := func(s string) string { return "policy acme { rule r { " + s + " } }" }
	for i, x := range []struct {
		s, at string // the problem is at the last place at which `at` stands
		e     api.Errno
	}{
		{rule("fresh 5;"), "5", 200},
		{"policy a { } policy a { rule r { fresh 5; } }", "policy", 6},
		{"policy a { rule r { } rule r { fresh 5; } } policy a { }", "rule", 6},
		{"policy a { rule r { } } policy b { rule r { } }", "", 0},
		{rule("fresh 5 ms; fresh 5;"), "fresh", 6},
		{rule("fresh 5 ms; stale 5 s; down 9999999999 h;"), "9999999999", 2},
		{rule("cost 5 s;"), "5", 200},
		{rule(`vary "a" in "x"; vary "b" in "x";`), "", 0},
		{rule(`vary "a" in "x"; vary "a" in "y", "y";`), "vary", 6},
		{rule(`vary "a" in "y", "y" default "z";`), "vary", 6},
		{rule(`vary "a" in "x", "y" default "z";`), "vary", 5},
		{rule(`vary "a" in "x", "y" default "";`), "vary", 5},
		{rule(`tags "x", "y", "x";`), "tags", 6},
		{rule("program q;") + " program p { }", "program q", 5},
		{rule("signed; signed;"), "signed", 6},
		{rule("allow { } allow { fresh_ }"), "", 180},
		{rule("allow { } allow { uses 5; uses 5; }"), "allow", 6},
		{rule("allow { uses 5; uses 6; }"), "uses", 6},
		{rule("allow { sites 64; }"), "sites", 2},
		{rule("allow { sites 1, 64, 1; }"), "sites", 2},
		{rule("allow { sites 1, 63, 1; }"), "sites", 6},
		{rule(`allow { clients "a", "a"; }`), "clients", 6},
		{rule(`allow { countries "a", "b", "b"; sites 99; }`), "countries", 6},
		{rule("allow { from 5; }"), "5", 200},
		{rule("allow { to 5 kb; from 6; }"), "5", 200},
		{rule("allow { uses 1073741825; }"), "1073741825", 2},
		{rule(`pattern "x"; allow { pattern "x"; }`), "", 0},
		{rule(`allow { pattern "x"; pattern "y"; } pattern "x"; pattern "z";`), `pattern "y"`, 6},
		{rule("stale 5 h; allow { sites 64; } fresh 5;"), "sites", 2},
		{rule("fresh 5;") + " program p { log 1; }", "5", 200},
		{"program p { log 1; } " + rule("fresh 7;"), "7", 200},
	} {
		tree, q := parser.Parse(x.s)
		if q.E != api.OK {
			if x.e != q.E {
				t.Error("the source", i, q)
			}
			continue
		}
		typed, p := typing.Check(tree)
		want := api.Problem{E: x.e}
		if x.e != api.OK {
			want.At = strings.LastIndex(x.s, x.at)
		}
		if p != want || x.e != api.OK && !reflect.DeepEqual(typed, api.Typed{}) {
			t.Errorf("P20.2: %q: %v, want %v", x.s, p, want)
		}
	}
}

func TestPrograms(t *testing.T) {
	x, p := check(t, `program p effects log, reads { let x = 1 + 2; if x > 3 { let y = "a"; set y = header "h"; } else { let z = status; } let w = -x; repeat 7 { let v = not true; set header "h" = "b"; } deny "d"; }`)
	n := func(n int) api.TExpr { return api.TExpr{Op: api.PxNumber, Type: api.TyNumber, N: n} }
	text := func(s string) api.TExpr { return api.TExpr{Op: api.PxText, Type: api.TyText, S: s} }
	x0 := api.TExpr{Op: api.PxName, Type: api.TyNumber}
	want := api.Program{Name: "p", Effects: []int{api.EfReads, api.EfLog}, Code: []api.TStmt{
		{Kind: api.PsLet, X: api.TExpr{Op: api.PxAdd, Type: api.TyNumber, Args: []api.TExpr{n(1), n(2)}}},
		{Kind: api.PsIf, X: api.TExpr{Op: api.PxMore, Type: api.TyBool, Args: []api.TExpr{x0, n(3)}},
			Body: []api.TStmt{{Kind: api.PsLet, Slot: 1, X: text("a")}, {Kind: api.PsSet, Slot: 1, X: api.TExpr{Op: api.PxHeader, Type: api.TyText, S: "h"}}},
			Else: []api.TStmt{{Kind: api.PsLet, Slot: 1, X: api.TExpr{Op: api.PxStatus, Type: api.TyNumber}}}},
		{Kind: api.PsLet, Slot: 1, X: api.TExpr{Op: api.PxNeg, Type: api.TyNumber, Args: []api.TExpr{x0}}},
		{Kind: api.PsRepeat, N: 7, Body: []api.TStmt{
			{Kind: api.PsLet, Slot: 2, X: api.TExpr{Op: api.PxNot, Type: api.TyBool, Args: []api.TExpr{{Op: api.PxTrue, Type: api.TyBool}}}},
			{Kind: api.PsHeader, Name: "h", X: text("b")}}},
		{Kind: api.PsDeny, X: text("d")},
	}}
	if p != (api.Problem{}) || len(x.Programs) != 1 || !reflect.DeepEqual(x.Programs[0], want) {
		t.Errorf("P20.4:\n%v\n%v %v", x.Programs, want, p)
	}
	if !typing.Right(want) {
		t.Error("P20.7: the program is not right")
	}
}

func TestProgramProblems(t *testing.T) {
	code := func(s string) string { return "program p { " + s + " }" }
	for _, x := range []struct {
		s, at string // as above
		e     api.Errno
	}{
		{code("log 1;"), "1", 201}, {code(`let x = 1; set x = "a";`), `"a"`, 201},
		{"program p { } program p { log 1; }", "program", 6}, {"program q effects log, reads, log { log 1; }", "program", 6},
		{code("let x = 1; let x = 2;"), "let", 6}, {code("let x = y;"), "y", 5}, {code("let x = x;"), "x", 5}, {code("set x = 1;"), "set", 5}, {code("set x = y;"), "y", 5}, {code("let x = 1; let x = y;"), "y", 5},
		{code("let x = 1; if true { let x = 2; }"), "let", 6}, {code("if true { let x = 2; } let x = x;"), "x;", 5}, {code("if true { let x = 2; } else { set x = 1; }"), "set", 5}, {code(`if true { let x = 2; } else { let x = "a"; } let x = true; set x = false;`), "", 0},
		{code(`repeat 3 { let x = 2; } set x = 1;`), "set x", 5}, {code("repeat 1001 { log 1; }"), "1001", 2}, {code("repeat 1000 { }"), "", 0}, {code("repeat 1000 { log 1; }"), "1;", 201},
		{code(`set header "h" = 1;`), "1", 201}, {code(`set status = "a";`), `"a"`, 201}, {code("if 1 { log 2; }"), "1", 201}, {code("deny true;"), "true", 201}, {code("reply status;"), "status", 201}, {code(`if true { log 1; } else { log 2; }`), "1", 201}, {code(`if true { } else { log 2; }`), "2", 201},
		{code(`let x = 1 + "a";`), "+", 201}, {code(`let x = "a" + 1;`), "+", 201}, {code("let x = true + false;"), "+", 201}, {code(`let x = "a" - "b";`), "-", 201}, {code(`let x = "a" * 2;`), "*", 201}, {code(`let x = 1 / "a";`), "/", 201}, {code(`let x = 1 % true;`), "%", 201},
		{code("let x = true < false;"), "<", 201}, {code(`let x = 1 < "a";`), "<", 201}, {code(`let x = 1 >= true;`), ">=", 201}, {code(`let x = "a" <= 1;`), "<=", 201}, {code(`let x = "a" > 1;`), ">", 201}, {code(`let x = 1 == "a";`), "==", 201}, {code(`let x = true != 1;`), "!=", 201}, {code("let x = true == false;"), "", 0},
		{code("let x = 1 and true;"), "and", 201}, {code("let x = true or 1;"), "or", 201}, {code("let x = not 1;"), "not", 201}, {code("let x = -true;"), "-", 201}, {code(`let x = -"a";`), "-", 201}, {code(`let x = 1 in (1, "a");`), "in", 201}, {code("let x = true in (true);"), "", 0}, {code("let x = 1 in (2, y);"), "y", 5},
		{code(`let x = (1 + "a") * (true - 1);`), "+", 201}, {code(`let x = y + z;`), "y", 5}, {code(`let x = 1 < 2; if x { } else { set x = 1; }`), "1;", 201}, {code(`let x = "a" < "b"; let y = header "h" == "x"; let z = status % 2 == 0; log "a" + "b";`), "", 0},
	} {
		_, p := check(t, x.s)
		want := api.Problem{E: x.e}
		if x.e != api.OK {
			want.At = strings.LastIndex(x.s, x.at)
		}
		if p != want {
			t.Errorf("P20.4: %q: %v, want %v", x.s, p, want)
		}
	}
}

func TestSlots(t *testing.T) {
	var b strings.Builder
	for i := range api.MaxSlots {
		fmt.Fprintf(&b, "let v%d = 1; ", i)
	}
	full := b.String()
	if x, p := check(t, "program p { "+full+"}"); p.E != api.OK || x.Programs[0].Code[199].Slot != 199 || !typing.Right(x.Programs[0]) {
		t.Error("P20.4: 200 variables:", p)
	}
	s := "program p { " + full + "let x = 1; }"
	if _, p := check(t, s); p != (api.Problem{At: strings.Index(s, "let x"), E: api.ErrLimit}) {
		t.Error("P20.4: 201 variables:", p)
	}
	s = "program p { " + full + "let v7 = 1; }"
	if _, p := check(t, s); p != (api.Problem{At: strings.LastIndex(s, "let"), E: api.ErrTwice}) {
		t.Error("P20.4: ErrTwice comes first:", p)
	}
	if _, p := check(t, "program p { if true { "+full+"} let x = 1; }"); p.E != api.OK {
		t.Error("P20.4: variables of a block that has ended:", p)
	}
}

func TestLevels(t *testing.T) {
	// The level of the innermost expression is 3 more than there are signs: that of the statement is 1, of its expression 2.
	minus := func(n int) string { return "program p { let x = " + strings.Repeat("-", n) + "1; }" }
	if x, p := check(t, minus(198)); p.E != api.OK || !typing.Right(x.Programs[0]) {
		t.Error("P20.4: the level 200:", p)
	}
	if _, p := check(t, minus(199)); p != (api.Problem{At: len("program p { let x = ") + 199, E: api.ErrLimit}) {
		t.Error("P20.4: the level 201:", p)
	}
	if _, p := check(t, minus(300)); p != (api.Problem{At: len("program p { let x = ") + 199, E: api.ErrLimit}) {
		t.Error("P20.4: the level 201:", p)
	}
	chain := "program p { let x = 1" + strings.Repeat("+1", 300) + "; }"
	if _, p := check(t, chain); p != (api.Problem{At: len("program p { let x = 1") + 2*100, E: api.ErrLimit}) {
		t.Error("P20.4: a chain of signs:", p)
	}
	bad := "program p { let x = " + strings.Repeat("-", 199) + "y; }"
	if _, p := check(t, bad); p.E != api.ErrLimit {
		t.Error("P20.4: ErrLimit comes before ErrName:", p)
	}
	elses := func(n int) string {
		return "program p { if true { } " + strings.Repeat("else if true { } ", n) + "}"
	}
	if x, p := check(t, elses(198)); p.E != api.OK || !typing.Right(x.Programs[0]) {
		t.Error("P20.4: statements of the level 199:", p)
	}
	// The statement has the level 200, its expression 201.
	if _, p := check(t, elses(199)); p != (api.Problem{At: strings.LastIndex(elses(199), "true"), E: api.ErrLimit}) {
		t.Error("P20.4: an expression of the level 201:", p)
	}
	repeats := func(last string) api.PSource {
		tree, _ := parser.Parse("program p { " + last + " }")
		code := tree.Programs[0].Code
		for range 199 {
			code = []api.PStmt{{Kind: api.PsRepeat, X: api.PExpr{Op: api.PxNumber, S: "0"}, Body: code}}
		}
		tree.Programs[0].Code = code
		return tree
	}
	if x, p := typing.Check(repeats("repeat 3 { }")); p.E != api.OK || !typing.Right(x.Programs[0]) {
		t.Error("P20.4: a repeat of the level 200 (its number has no level):", p)
	}
	if _, p := typing.Check(repeats("log 1;")); p != (api.Problem{At: 16, E: api.ErrLimit}) {
		t.Error("P20.4: a statement of the level 200, with an expression:", p)
	}
	if _, p := typing.Check(repeats("repeat 1001 { repeat 1002 { } }")); p != (api.Problem{At: 19, E: api.ErrLimit}) {
		t.Error("P20.4: the number of the level 200:", p)
	}
	if _, p := typing.Check(repeats("repeat 3 { repeat 1002 { } }")); p != (api.Problem{At: 23, E: api.ErrLimit}) {
		t.Error("P20.4: a statement of the level 201:", p)
	}
	x, _ := check(t, minus(198))
	y := x.Programs[0]
	y.Code = []api.TStmt{{Kind: api.PsRepeat, Body: y.Code}}
	if typing.Right(y) {
		t.Error("P20.5: a level of 201")
	}
}

func TestRight(t *testing.T) {
	source := `program p effects reads, writes { let x = 1; let y = "t" + header "h"; if x in (1, 2) { set x = -x; } else { deny y; } repeat 3 { set header "h" = y; set status = 200 + status; log "a"; } let z = true; set z = not z and x < 2; }`
	get := func() api.Program {
		x, p := check(t, source)
		if p.E != api.OK {
			t.Fatal(p)
		}
		return x.Programs[0]
	}
	if !typing.Right(get()) || !typing.Right(api.Program{}) || !typing.Right(api.Program{Name: "\xff", Effects: []int{1, 2, 3, 4, 5, 6}}) {
		t.Fatal("P20.5: right programs")
	}
	for i, change := range []func(p *api.Program){
		func(p *api.Program) { p.Effects = []int{2, 1} }, func(p *api.Program) { p.Effects = []int{1, 1} }, func(p *api.Program) { p.Effects = []int{0} }, func(p *api.Program) { p.Effects = []int{7} }, func(p *api.Program) { p.Effects = []int{-1} },
		func(p *api.Program) { p.Code[0].Kind = 0 }, func(p *api.Program) { p.Code[0].Kind = 10 }, func(p *api.Program) { p.Code[0].Slot = 1 }, func(p *api.Program) { p.Code[1].Slot = 0 }, func(p *api.Program) { p.Code[0].Name = "x" }, func(p *api.Program) { p.Code[0].N = 1 },
		func(p *api.Program) { p.Code[0].Body = p.Code[1:2] }, func(p *api.Program) { p.Code[0].Else = p.Code[1:2] }, func(p *api.Program) { p.Code[0].X.Type = 2 }, func(p *api.Program) { p.Code[0].X.Type = 0 }, func(p *api.Program) { p.Code[0].X.N = -1 }, func(p *api.Program) { p.Code[0].X.N = 1000000000000000000 },
		func(p *api.Program) { p.Code[0].X.S = "x" }, func(p *api.Program) { p.Code[0].X.Slot = 1 }, func(p *api.Program) { p.Code[0].X.Args = []api.TExpr{p.Code[0].X} }, func(p *api.Program) { p.Code[0].X.Op = 0 }, func(p *api.Program) { p.Code[0].X.Op = 24 }, func(p *api.Program) { p.Code[0].X.Op = api.PxStatus },
		func(p *api.Program) { p.Code[1].X.Args[0].S = strings.Repeat("x", 201) }, func(p *api.Program) { p.Code[1].X.Args[1].S = strings.Repeat("x", 201) }, func(p *api.Program) { p.Code[1].X.Args[0].N = 1 }, func(p *api.Program) { p.Code[1].X.Op = api.PxSub }, func(p *api.Program) { p.Code[1].X.Type = 1 }, func(p *api.Program) { p.Code[1].X.Args = p.Code[1].X.Args[:1] },
		func(p *api.Program) { p.Code[1].X.Args = append(p.Code[1].X.Args, p.Code[1].X.Args[0]) }, func(p *api.Program) { p.Code[1].X.S = "x" }, func(p *api.Program) { p.Code[2].X.Args = p.Code[2].X.Args[:1] }, func(p *api.Program) { p.Code[2].X.Args[2].Type = 2 }, func(p *api.Program) { p.Code[2].X.Args[0].Slot = 1 }, func(p *api.Program) { p.Code[2].X.Args[0].Slot = 2 }, func(p *api.Program) { p.Code[2].X.Args[0].Slot = -1 },
		func(p *api.Program) { p.Code[2].X.Args[0].N = 1 }, func(p *api.Program) { p.Code[2].Slot = 1 }, func(p *api.Program) { p.Code[2].Name = "x" }, func(p *api.Program) { p.Code[2].N = 1 }, func(p *api.Program) { p.Code[2].Body[0].Slot = 1 }, func(p *api.Program) { p.Code[2].Body[0].Slot = 2 }, func(p *api.Program) { p.Code[2].Body[0].Slot = -1 }, func(p *api.Program) { p.Code[2].Else[0].Kind = api.PsStatus },
		func(p *api.Program) { p.Code[2].Body[0].X.Args[0].Type = 3 }, func(p *api.Program) { p.Code[2].Body[0].X.Args = nil }, func(p *api.Program) { p.Code[2].X.Type = 1 }, func(p *api.Program) { p.Code[2].X = p.Code[0].X }, func(p *api.Program) { p.Code[3].N = -1 }, func(p *api.Program) { p.Code[3].N = 1001 }, func(p *api.Program) { p.Code[3].Slot = 1 }, func(p *api.Program) { p.Code[3].Name = "x" },
		func(p *api.Program) { p.Code[3].X = p.Code[0].X }, func(p *api.Program) { p.Code[3].X.Type = 1 }, func(p *api.Program) { p.Code[3].X.N = 1 }, func(p *api.Program) { p.Code[3].X.S = "x" }, func(p *api.Program) { p.Code[3].X.Slot = 1 }, func(p *api.Program) { p.Code[3].X.Args = []api.TExpr{{}} }, func(p *api.Program) { p.Code[3].Else = p.Code[3].Body },
		func(p *api.Program) { p.Code[3].Body[0].Name = strings.Repeat("x", 201) }, func(p *api.Program) { p.Code[3].Body[0].Slot = 1 }, func(p *api.Program) { p.Code[3].Body[1].Name = "x" }, func(p *api.Program) { p.Code[3].Body[1].X = p.Code[1].X }, func(p *api.Program) { p.Code[3].Body[2].X = p.Code[0].X }, func(p *api.Program) { p.Code[3].Body[0].X = p.Code[0].X },
		func(p *api.Program) { p.Code[4].X.Op = api.PxFalse; p.Code[4].X.N = 1 }, func(p *api.Program) { p.Code[5].X.Args[0].Args[0].Type = 1 }, func(p *api.Program) { p.Code[5].X.Args[1].Op = api.PxAdd },
	} {
		p := get()
		change(&p)
		if typing.Right(p) {
			t.Error("P20.5: a program that is not right:", i)
		}
	}
	p := get()
	p.Code[3].N, p.Code[3].Body[0].Name, p.Code[0].X.N = 1000, strings.Repeat("x", 200), 999999999999999999
	p.Code[1].X.Args[0].S, p.Code[3].Else, p.Code[0].Body = strings.Repeat("x", 200), []api.TStmt{}, []api.TStmt{}
	if !typing.Right(p) {
		t.Error("P20.5: a right program")
	}
}

// run runs the statements of a program with headers a: !, b: x, a: ? and the status 200.
func run(t *testing.T, code string, most int) (api.Outcome, api.Errno) {
	t.Helper()
	x, p := check(t, "program p { "+code+" }")
	if p.E != api.OK {
		t.Fatalf("%q: %v", code, p)
	}
	e := api.Edge{Headers: []api.Header{{Name: "a", Value: "!"}, {Name: "b", Value: "x"}, {Name: "a", Value: "?"}}, Status: 200}
	old := slices.Clone(e.Headers)
	o, why := typing.Run(x.Programs[0], e, most)
	if !slices.Equal(e.Headers, old) {
		t.Error("P20.8: Run has changed its argument")
	}
	if why != api.OK && !reflect.DeepEqual(o, api.Outcome{}) {
		t.Error("P20.6: an outcome beside an error")
	}
	return o, why
}

func TestExpressions(t *testing.T) {
	for _, x := range []struct {
		s    string
		want bool
	}{
		{"7 / 2 == 3", true}, {"-7 / 2 == -4", true}, {"7 / -2 == -4", true}, {"-7 / -2 == 3", true}, {"7 % 3 == 1", true}, {"-7 % 3 == 2", true}, {"7 % -3 == -2", true}, {"-7 % -3 == -1", true}, {"6 % -3 == 0", true}, {"-6 / 3 == -2", true}, {"0 / -5 == 0", true},
		{"1 < 2", true}, {"2 < 2", false}, {"2 > 1", true}, {"1 > 1", false}, {"2 <= 2", true}, {"3 <= 2", false}, {"2 >= 2", true}, {"1 >= 2", false}, {"1 != 2", true}, {"1 != 1", false}, {`"a" < "b"`, true}, {`"b" < "a"`, false}, {`"a" <= "a"`, true}, {`"B" < "a"`, true}, {`"a" < "aa"`, true}, {`"b" > "aa"`, true}, {`"a" >= "b"`, false},
		{`"a" == "a"`, true}, {`"a" != "a"`, false}, {"true == true", true}, {"true == false", false}, {"true != false", true}, {"true and false", false}, {"true and true", true}, {"false or false", false}, {"false or true", true}, {"not true", false}, {"not false", true}, {"2 in (1, 2)", true}, {"3 in (1, 2)", false}, {`"a" in ("b", "a")`, true}, {"true in (false)", false},
		{`header "a" == "!"`, true}, {`header "z" == ""`, true}, {`header "A" == ""`, true}, {"status == 200", true}, {`"a" + "b" == "ab"`, true}, {"2 + 3 * 4 - 1 == 13", true}, {"-(2) == 0 - 2", true}, {"-0 == 0", true}, {"1000000000 * 1000000000 == 1000000000000000000 / 1 ", true},
	} {
		s := strings.ReplaceAll(x.s, "1000000000000000000", "(999999999999999999 + 1)")
		o, e := run(t, "if "+s+` { log "y"; }`, 1000)
		if e != api.OK || (len(o.Logs) == 1) != x.want {
			t.Errorf("P20.6: %s: %v %d", x.s, o.Logs, e)
		}
	}
}

func TestValues(t *testing.T) {
	big := "1152921504606846976" // 2^60 has 19 digits, so it is made of 2^59
	half := "576460752303423488"
	if fmt.Sprint(api.MaxNumber) != big {
		t.Fatal("the greatest number")
	}
	text := func(n int) string {
		return `let t = "` + strings.Repeat("x", 128) + `"; ` + strings.Repeat("set t = t + t; ", n)
	}
	for _, x := range []struct {
		code string
		e    api.Errno
	}{
		{"let x = " + half + " * 2;", 0}, {"let x = " + half + " + " + half + ";", 0}, {"let x = " + half + " * 2 + 1;", 203}, {"let x = -(" + half + " * 2) - 1;", 203}, {"let x = -(" + half + ") * 2;", 0}, {"let x = " + half + " * 3;", 203}, {"let x = " + half + " * -3;", 203}, {"let x = 999999999999999999 * 999999999999999999;", 203},
		{"let x = 4294967296 * 4294967296;", 203}, {"let x = 1073741824 * 1073741824;", 0}, {"let x = 1073741825 * 1073741824;", 203}, {"let x = 0 * 999999999999999999;", 0}, {"let x = 999999999999999999 * 0;", 0}, {"let x = 1 / 0;", 202}, {"let x = 1 % 0;", 202}, {"let x = true or 1 / 0 == 1;", 202}, {"let x = false and 1 / 0 == 1;", 202}, {"let x = 1 in (1, 1 / 0);", 202},
		{text(5), 0}, {text(5) + `set t = t + "x";`, 203}, {text(5) + `set t = t + "";`, 0}, {text(6), 203}, {"set status = 100;", 0}, {"set status = 599;", 0}, {"set status = 99;", 203}, {"set status = 600;", 203}, {"set status = -1;", 203}, {`repeat 100 { log "a"; }`, 0}, {`repeat 101 { log "a"; }`, 203},
		{"let x = 1 / 0 + (" + half + " * 3);", 202}, {`if 1 / 0 == 1 { } else { log "a"; }`, 202}, {`deny "a" + header "b"; let x = 1 / 0;`, 0}, {`if false { let x = 1 / 0; }`, 0}, {`repeat 0 { let x = 1 / 0; }`, 0},
	} {
		if _, e := run(t, x.code, 100000); e != x.e {
			t.Errorf("P20.6: %.80s: %d", x.code, e)
		}
	}
}

func TestStatements(t *testing.T) {
	h := func(l ...string) []api.Header {
		var out []api.Header
		for i := 0; i < len(l); i += 2 {
			out = append(out, api.Header{Name: l[i], Value: l[i+1]})
		}
		return out
	}
	same := h("a", "!", "b", "x", "a", "?")
	for _, x := range []struct {
		code string
		want api.Outcome
	}{
		{"", api.Outcome{Edge: api.Edge{Headers: same, Status: 200}}},
		{"let x = 1 + 2 * 3; if x > 6 { set status = x + 400; }", api.Outcome{Edge: api.Edge{Headers: same, Status: 407}}},
		{`deny "no" + header "a"; log "x";`, api.Outcome{Edge: api.Edge{Headers: same, Status: 200}, End: api.EnDenied, Text: "no!"}},
		{`repeat 3 { log "a"; if status == 200 { reply "r"; } } log "x";`, api.Outcome{Edge: api.Edge{Headers: same, Status: 200}, Logs: []string{"a"}, End: api.EnReply, Text: "r"}},
		{`set header "a" = "1";`, api.Outcome{Edge: api.Edge{Headers: h("a", "1", "b", "x"), Status: 200}}},
		{`set header "b" = "1"; set header "c" = "2"; set header "A" = header "c";`, api.Outcome{Edge: api.Edge{Headers: h("a", "!", "b", "1", "a", "?", "c", "2", "A", "2"), Status: 200}}},
		{`let n = 0; repeat 4 { set n = n + 2; if n == 6 { log "six"; } else { log "no"; } } set status = 100 + n;`, api.Outcome{Edge: api.Edge{Headers: same, Status: 108}, Logs: []string{"no", "no", "six", "no"}}},
		{`if status in (200, 304) { let x = "i"; log x; } else { log "o"; } let y = "y"; log y; log "";`, api.Outcome{Edge: api.Edge{Headers: same, Status: 200}, Logs: []string{"i", "y", ""}}},
		{`set status = 404; if status == 404 { reply ""; }`, api.Outcome{Edge: api.Edge{Headers: same, Status: 404}, End: api.EnReply}},
		{`let b = true; repeat 2 { set b = not b; } if b { log "t"; }`, api.Outcome{Edge: api.Edge{Headers: same, Status: 200}, Logs: []string{"t"}}},
	} {
		if o, e := run(t, x.code, 10000); e != api.OK || !reflect.DeepEqual(o, x.want) {
			t.Errorf("P20.6: %s: %v %d", x.code, o, e)
		}
	}
}

// least returns the least fuel with which a run ends.
func least(t *testing.T, code string) int {
	for most := range 2000 {
		if _, e := run(t, code, most); e != api.ErrFuel {
			return most
		}
	}
	return -1
}

func TestCosts(t *testing.T) {
	for _, x := range []struct {
		code string
		cost int
	}{
		{"", 0}, {`log "a";`, 2}, {"let x = 1 + 2 * 3; if x > 6 { set status = x + 400; }", 14}, {"repeat 0 { }", 1}, {"repeat 5 { }", 6}, {`repeat 3 { log "a"; }`, 1 + 3*3}, {"if true { } else { }", 2}, {"let x = 1 in (1, 2, 3);", 6}, {"let x = not not true;", 4}, {`deny "a"; log "b";`, 2},
		{`repeat 3 { repeat 2 { log "a"; } }`, 1 + 3*(1+1+2*3)}, {`repeat 5 { log "a"; reply "b"; }`, 1 + 1 + 4}, {"let x = 1 / 0;", 4}, {"set status = 1000;", 2}, {`let x = true or 1 == 1;`, 6},
	} {
		if n := least(t, x.code); n != x.cost {
			t.Errorf("P20.6, P20.9: %s costs %d, want %d", x.code, n, x.cost)
		}
		o, e := run(t, x.code, x.cost)
		for _, more := range []int{1, 7, 1 << 40, math.MaxInt - x.cost} {
			if p, f := run(t, x.code, x.cost+more); f != e || !reflect.DeepEqual(o, p) {
				t.Error("P20.8:", x.code, more)
			}
		}
	}
	a, _ := run(t, `let n = 0; repeat 4 { set n = n * 3 + 1; set header "n" = header "n" + "x"; } set status = 100 + n;`, 1000)
	one := `set n = n * 3 + 1; set header "n" = header "n" + "x"; `
	b, _ := run(t, `let n = 0; `+strings.Repeat(one, 4)+`set status = 100 + n;`, 1000)
	if !reflect.DeepEqual(a, b) {
		t.Error("P20.9:", a, b)
	}
}

func TestBareTrees(t *testing.T) {
	for _, s := range []string{
		`policy a { rule r { fresh 5 s; tags "b", "a"; } } program p { let x = 1; log "a"; }`, `program p { log 1; }`, `policy a { rule r { cost 5 s; } }`, `policy a { rule r { allow { sites 64; } } }`,
	} {
		x, _ := parser.Parse(s)
		a, p := typing.Check(x)
		b, q := typing.Check(parser.Bare(x))
		if p.E != q.E || !reflect.DeepEqual(a, b) {
			t.Error("P20.7:", s, p, q)
		}
	}
}
