package parser_test

import (
	"math/rand"
	"reflect"
	"slices"
	"strings"
	"testing"

	"weirgate/api"
	"weirgate/lexer"
	"weirgate/parser"
)

func num(at int, s string) api.PExpr  { return api.PExpr{Op: api.PxNumber, At: at, S: s} }
func name(at int, s string) api.PExpr { return api.PExpr{Op: api.PxName, At: at, S: s} }

func op(op, at int, args ...api.PExpr) api.PExpr { return api.PExpr{Op: op, At: at, Args: args} }

func TestPolicyTree(t *testing.T) {
	s := `policy acme { rule r {
pattern "acme/**"; tags "a", "b"; fresh 5 min; stale 6; down 7 s; negative 8 ms; cost 9 kb;
vary "h" in "x", "y" default "y"; vary "i" in "z"; signed; program p;
allow { pattern "q"; from 1 h; to 2; clients "c"; countries "de", "fr"; sites 1, 2; uses 3; } } }`
	at := func(x string) int { return strings.Index(s, x) }
	amount := func(n, unit string) api.PAmount {
		return api.PAmount{Number: n, Unit: unit, At: at(" "+n+" ") + 1}
	}
	end := func(n string) api.PAmount { return api.PAmount{Number: n, At: at(n + ";")} }
	want := []api.PClause{
		{Kind: api.PcPattern, At: at(`pattern "acme`), Texts: []string{"acme/**"}},
		{Kind: api.PcTags, At: at("tags"), Texts: []string{"a", "b"}},
		{Kind: api.PcFresh, At: at("fresh"), Amount: amount("5", "min")},
		{Kind: api.PcStale, At: at("stale"), Amount: end("6")},
		{Kind: api.PcDown, At: at("down"), Amount: amount("7", "s")},
		{Kind: api.PcNegative, At: at("negative"), Amount: amount("8", "ms")},
		{Kind: api.PcCost, At: at("cost"), Amount: amount("9", "kb")},
		{Kind: api.PcVary, At: at(`vary "h"`), Name: "h", Texts: []string{"x", "y"}, Default: "y", HasDefault: true},
		{Kind: api.PcVary, At: at(`vary "i"`), Name: "i", Texts: []string{"z"}},
		{Kind: api.PcSigned, At: at("signed")},
		{Kind: api.PcProgram, At: at("program"), Name: "p"},
		{Kind: api.PcAllow, At: at("allow"), Conds: []api.PClause{
			{Kind: api.PcPattern, At: at(`pattern "q"`), Texts: []string{"q"}},
			{Kind: api.PcFrom, At: at("from"), Amount: amount("1", "h")},
			{Kind: api.PcTo, At: at("to 2"), Amount: end("2")},
			{Kind: api.PcClients, At: at("clients"), Texts: []string{"c"}},
			{Kind: api.PcCountries, At: at("countries"), Texts: []string{"de", "fr"}},
			{Kind: api.PcSites, At: at("sites"), Texts: []string{"1", "2"}},
			{Kind: api.PcUses, At: at("uses"), Amount: end("3")},
		}},
	}
	want[17-6].Conds[2].Amount.At = at("to 2") + 3
	x, p := parser.Parse(s)
	if p != (api.Problem{}) || len(x.Policies) != 1 || len(x.Programs) != 0 {
		t.Fatal("P19.1:", x, p)
	}
	pol := x.Policies[0]
	if pol.Name != "acme" || pol.At != 0 || len(pol.Rules) != 1 || pol.Rules[0].Name != "r" || pol.Rules[0].At != at("rule") {
		t.Error("P19.1: the policy:", pol)
	}
	if l := pol.Rules[0].Clauses; !reflect.DeepEqual(l, want) {
		t.Errorf("P19.1: the clauses:\n%v\n%v", l, want)
	}
}

func TestProgramTree(t *testing.T) {
	s := `program p effects reads, log, writes, status, deny, reply, log { let x = 1 ; set x = 2 ; set header "h" = "t"; set status = 404; if true { log "a"; } else if false { } else { deny x; } repeat 5 { reply "r"; } }`
	at := func(x string) int { return strings.Index(s, x) }
	want := api.PProgram{Name: "p", Effects: []int{1, 4, 2, 3, 5, 6, 4}, Code: []api.PStmt{
		{Kind: api.PsLet, At: at("let"), Name: "x", X: num(at("1 ;"), "1")},
		{Kind: api.PsSet, At: at("set x"), Name: "x", X: num(at("2 ;"), "2")},
		{Kind: api.PsHeader, At: at("set header"), Name: "h", X: api.PExpr{Op: api.PxText, At: at(`"t"`), S: "t"}},
		{Kind: api.PsStatus, At: at("set status"), X: num(at("404"), "404")},
		{Kind: api.PsIf, At: at("if true"), X: op(api.PxTrue, at("true")),
			Body: []api.PStmt{{Kind: api.PsLog, At: at(`log "a"`), X: api.PExpr{Op: api.PxText, At: at(`"a"`), S: "a"}}},
			Else: []api.PStmt{{Kind: api.PsIf, At: at("if false"), X: op(api.PxFalse, at("false")),
				Else: []api.PStmt{{Kind: api.PsDeny, At: at("deny x"), X: name(at("x; }"), "x")}}}}},
		{Kind: api.PsRepeat, At: at("repeat"), X: num(at("5 {"), "5"), Body: []api.PStmt{{Kind: api.PsReply, At: at(`reply "r"`), X: api.PExpr{Op: api.PxText, At: at(`"r"`), S: "r"}}}},
	}}
	x, p := parser.Parse(s)
	if p != (api.Problem{}) || len(x.Programs) != 1 || !reflect.DeepEqual(x.Programs[0], want) {
		t.Errorf("P19.1:\n%v\n%v %v", x, want, p)
	}
	bare := parser.Bare(x)
	if !reflect.DeepEqual(x.Programs[0], want) {
		t.Error("P19.4: Bare has changed its argument")
	}
	other, _ := parser.Parse("# c\n" + strings.ReplaceAll(s, " ", "\n\t"))
	if !reflect.DeepEqual(parser.Bare(other), bare) || bare.Programs[0].Code[4].Else[0].Else[0].X.At != 0 || bare.Programs[0].Code[5].At != 0 {
		t.Error("P19.4, P19.6:", bare)
	}
	bare.Programs[0].Code[4].Body[0].Kind, bare.Programs[0].Effects[0] = 99, 99
	if !reflect.DeepEqual(x.Programs[0], want) {
		t.Error("P19.4: Bare shares memory with its argument")
	}
	pols, _ := parser.Parse(`policy a { rule b { tags "x"; allow { from 5 s; sites 1; } vary "h" in "y"; } }`)
	b := parser.Bare(pols)
	c := b.Policies[0].Rules[0].Clauses
	if b.Policies[0].At+b.Policies[0].Rules[0].At+c[0].At+c[1].At+c[2].At+c[1].Conds[0].At+c[1].Conds[0].Amount.At != 0 || c[1].Conds[0].Amount.Number != "5" || c[1].Conds[1].Texts[0] != "1" {
		t.Error("P19.4:", b)
	}
	c[0].Texts[0], c[1].Conds[0].Kind = "z", 0
	if d := pols.Policies[0].Rules[0].Clauses; d[0].Texts[0] != "x" || d[1].Conds[0].Kind != api.PcFrom || d[1].Conds[0].At == 0 {
		t.Error("P19.4: Bare shares memory with its argument")
	}
}

func TestExpr(t *testing.T) {
	for _, c := range []struct {
		s    string
		want api.PExpr
		text string
	}{
		{"1 + 2 * 3", op(api.PxAdd, 2, num(0, "1"), op(api.PxMul, 6, num(4, "2"), num(8, "3"))), "1 + ( 2 * 3 )"},
		{"a - b - c", op(api.PxSub, 6, op(api.PxSub, 2, name(0, "a"), name(4, "b")), name(8, "c")), "( a - b ) - c"},
		{"a - (b - c)", op(api.PxSub, 2, name(0, "a"), op(api.PxSub, 7, name(5, "b"), name(9, "c"))), "a - ( b - c )"},
		{"((a))", name(2, "a"), "a"},
		{"a/b%c", op(api.PxMod, 3, op(api.PxDiv, 1, name(0, "a"), name(2, "b")), name(4, "c")), "( a / b ) % c"},
		{"not not a", op(api.PxNot, 0, op(api.PxNot, 4, name(8, "a"))), "not ( not a )"},
		{"--a", op(api.PxNeg, 0, op(api.PxNeg, 1, name(2, "a"))), "- ( - a )"},
		{"-a*b", op(api.PxMul, 2, op(api.PxNeg, 0, name(1, "a")), name(3, "b")), "( - a ) * b"},
		{"a or b and not c == d + 1", op(api.PxOr, 2, name(0, "a"), op(api.PxAnd, 7, name(5, "b"), op(api.PxNot, 11, op(api.PxEq, 17, name(15, "c"), op(api.PxAdd, 22, name(20, "d"), num(24, "1")))))), "a or ( b and ( not ( c == ( d + 1 ) ) ) )"},
		{"a or b or c", op(api.PxOr, 7, op(api.PxOr, 2, name(0, "a"), name(5, "b")), name(10, "c")), "( a or b ) or c"},
		{"a+1 in (b or c, -d, 2)", op(api.PxIn, 4, op(api.PxAdd, 1, name(0, "a"), num(2, "1")), op(api.PxOr, 10, name(8, "b"), name(13, "c")), op(api.PxNeg, 16, name(17, "d")), num(20, "2")), "( a + 1 ) in ( b or c , - d , 2 )"},
		{`header "h" != status`, op(api.PxNe, 11, api.PExpr{Op: api.PxHeader, S: "h"}, op(api.PxStatus, 14)), `header "h" != status`},
		{"a<b and c>d", op(api.PxAnd, 4, op(api.PxLess, 1, name(0, "a"), name(2, "b")), op(api.PxMore, 9, name(8, "c"), name(10, "d"))), "( a < b ) and ( c > d )"},
		{"a<=b or c>=d", op(api.PxOr, 5, op(api.PxAtMost, 1, name(0, "a"), name(3, "b")), op(api.PxAtLeast, 9, name(8, "c"), name(11, "d"))), "( a <= b ) or ( c >= d )"},
		{`"\"" == true`, op(api.PxEq, 5, api.PExpr{Op: api.PxText, S: `"`}, op(api.PxTrue, 8)), `"\"" == true`},
		{"false", op(api.PxFalse, 0), "false"},
	} {
		x, p := parser.Expr(c.s)
		if p != (api.Problem{}) || !reflect.DeepEqual(x, c.want) {
			t.Errorf("P19.2: Expr(%q): %v %v", c.s, x, p)
		}
		if s, e := parser.PrintExpr(x); s != c.text || e != api.OK {
			t.Errorf("P19.3: PrintExpr of %q: %q %d", c.s, s, e)
		}
	}
}

func TestProblems(t *testing.T) {
	for _, c := range []struct {
		s  string
		at int
		e  api.Errno
	}{
		{"policy acme { rule r { fresh; } }", 28, 180}, {"program p { let x = 1 }", 22, 180}, {"program p { deny 1 < 2 < 3; }", 23, 180}, {"", 0, 0}, {"policy acme {", 13, 180}, {"policy acme { ", 14, 180}, {"rule", 0, 180}, {"x", 0, 180}, {"policy policy", 7, 180},
		{"policy acme { } }", 16, 180}, {"program p { log not 1 + not 2; }", 24, 180}, {"program p { log - not 2; }", 18, 180}, {"program p { log 1 in 2; }", 21, 180}, {"program p { log 1 in (); }", 22, 180}, {"program p { log a in (1) in (2); }", 25, 180}, {"program p { log a == 1 in (2); }", 23, 180},
		{"program p { repeat x { } }", 19, 180}, {"program p { set header h = 1; }", 23, 180}, {`program p { set "h" = 1; }`, 16, 180}, {"program p { if 1 { } else log 1; }", 26, 180}, {"program p effects { }", 18, 180}, {"program p effects reads log { }", 24, 180}, {"program p effects x { }", 18, 180}, {`program p effects "log" { }`, 18, 180},
		{`policy a { rule r { "fresh" 5; } }`, 20, 180}, {`policy a { rule r { from 5; } }`, 20, 180}, {`policy a { rule r { allow { fresh 5; } } }`, 28, 180}, {`policy a { rule r { allow { uses 5 s; } } }`, 35, 180}, {`policy a { rule r { pattern "a", "b"; } }`, 31, 180}, {`policy a { rule r { vary "h" in "x" default; } }`, 43, 180}, {`policy a { rule r { tags; } }`, 24, 180},
		{"policy a { rule r { sites 1; } }", 20, 180}, {"policy a { rule r { cost 5 6; } }", 27, 180}, {"policy a { fresh 5; }", 11, 180}, {"program p { log 1; ", 19, 180}, {"program p { log (1; }", 18, 180}, {"program p { log 007; ?", 16, 181}, {"x ?", 2, 180}, {`policy "a`, 7, 182}, {"policy " + strings.Repeat("n", 41), 7, 2}, {strings.Repeat("?", api.MaxSource+1), 0, 2},
	} {
		x, p := parser.Parse(c.s)
		if p != (api.Problem{At: c.at, E: c.e}) || !reflect.DeepEqual(x, api.PSource{}) {
			t.Errorf("P19.1: Parse(%.50q): %v", c.s, p)
		}
	}
	for _, c := range []struct {
		s  string
		at int
		e  api.Errno
	}{{"", 0, 180}, {"1 2", 2, 180}, {"1 +", 3, 180}, {"1 + ", 4, 180}, {"(1", 2, 180}, {"1)", 1, 180}, {"1 < 2 < 3", 6, 180}, {"let", 0, 180}, {"header", 6, 180}, {"1 ?", 2, 180}, {"[1]", 0, 180}} {
		if x, p := parser.Expr(c.s); p != (api.Problem{At: c.at, E: c.e}) || !reflect.DeepEqual(x, api.PExpr{}) {
			t.Errorf("P19.2: Expr(%q): %v", c.s, p)
		}
	}
}

func TestNest(t *testing.T) {
	deep := func(n int) string { return strings.Repeat("(", n) + "a" + strings.Repeat(")", n) }
	if x, p := parser.Expr(deep(40)); p.E != api.OK || x.At != 40 {
		t.Error("P19.1: 40 brackets:", p)
	}
	if x, p := parser.Expr(deep(41)); p != (api.Problem{At: 41, E: api.ErrLimit}) || x.Op != 0 {
		t.Error("P19.1: 41 brackets:", p)
	}
	for i, c := range []struct {
		s string
		p api.Problem
	}{
		{strings.Repeat("(", 41), api.Problem{At: 41, E: 180}}, {strings.Repeat("(", 42), api.Problem{At: 41, E: 2}}, {strings.Repeat("{", 42), api.Problem{At: 41, E: 2}}, {")) )" + strings.Repeat("({", 23), api.Problem{At: 4 + 44, E: 2}}, {"] ;" + strings.Repeat("(", 45), api.Problem{At: 3 + 41, E: 2}},
		{strings.Repeat("[", 45), api.Problem{At: 0, E: 180}}, {strings.Repeat(`"("`, 45), api.Problem{At: 3, E: 180}}, {strings.Repeat("(", 42) + "?", api.Problem{At: 42, E: 180}}, {strings.Repeat("()", 45), api.Problem{At: 1, E: 180}},
	} {
		if _, p := parser.Expr(c.s); p != c.p {
			t.Error("P19.1: open brackets:", i, p)
		}
	}
	x := name(0, "a")
	for range 41 {
		x = op(api.PxNeg, 0, x)
	}
	if s, e := parser.PrintExpr(x.Args[0]); e != api.OK || strings.Count(s, "(") != 39 {
		t.Error("P19.3: deep trees:", s, e)
	}
	if _, e := parser.PrintExpr(x); e != api.OK {
		t.Error("P19.3: 40 brackets:", e)
	}
	if s, e := parser.PrintExpr(op(api.PxNeg, 0, x)); s != "" || e != api.ErrLimit {
		t.Error("P19.3: 41 brackets:", s, e)
	}
	long := strings.Repeat("-", 60000) + "a"
	if _, p := parser.Expr(long); p.E != api.OK {
		t.Error("P19.2: many signs:", p)
	}
	if y, p := parser.Expr("a" + strings.Repeat("+a", 30000)); p.E != api.OK {
		t.Error("P19.2: many arguments:", p)
	} else if s, e := parser.PrintExpr(y); s != "" || e != api.ErrLimit {
		t.Error("P19.3: many arguments:", e)
	}
	elses := "program p { if a { } " + strings.Repeat("else if a { } ", 4000) + "}"
	if y, p := parser.Parse(elses); p.E != api.OK {
		t.Error("P19.1: many else:", p)
	} else if s, e := parser.Print(y); e != api.OK || s != strings.TrimSpace(elses) {
		t.Error("P19.3: many else:", e)
	}
	var big api.PSource
	for range 9000 {
		big.Programs = append(big.Programs, api.PProgram{Name: "p"})
	}
	if s, e := parser.Print(big); s != "" || e != api.ErrLimit {
		t.Error("P19.3: a long source:", e)
	}
}

// The first problem is where no source goes on: that is found by a parser for any grammar.
func TestFirstProblem(t *testing.T) {
	g := grammar()
	r := rand.New(rand.NewSource(1))
	good, bad := 0, 0
	for n := range 4000 {
		start := []string{"source", "or"}[n%2]
		fuel := 10 + r.Intn(60)
		tokens := derive(r, g, start, &fuel)
		for range r.Intn(3) {
			i := r.Intn(len(tokens) + 1)
			switch r.Intn(3) {
			case 0:
				tokens = slices.Insert(tokens, i, derive(r, g, []string{"atom", "effect", "clause", "stmt", "cond"}[r.Intn(5)], new(int))[0])
			case 1:
				tokens = slices.Delete(tokens, min(i, max(0, len(tokens)-1)), min(i+1, len(tokens)))
			default:
				if i < len(tokens) {
					tokens[i], tokens[0] = tokens[0], tokens[i]
				}
			}
		}
		s, e := lexer.Text(tokens)
		if e != api.OK {
			continue
		}
		tokens, _ = lexer.Tokens(s)
		k, ok := viable(g, start, tokens)
		var p api.Problem
		var x api.PSource
		if start == "source" {
			x, p = parser.Parse(s)
		} else {
			var y api.PExpr
			y, p = parser.Expr(s)
			x = api.PSource{Programs: []api.PProgram{{Name: "p", Code: []api.PStmt{{Kind: api.PsLog, X: y}}}}}
		}
		if p.E == api.ErrLimit {
			continue
		}
		want := api.Problem{}
		if !ok {
			bad++
			want = api.Problem{At: len(s), E: api.ErrSyntax}
			if k < len(tokens) {
				want.At = tokens[k].At
			}
		}
		if p != want {
			t.Fatalf("P19.1: %q: %v, want %v", s, p, want)
		}
		if !ok {
			continue
		}
		good++
		text, e := parser.Print(x)
		if e == api.ErrLimit {
			continue
		}
		y, p := parser.Parse(text)
		if e != api.OK || p.E != api.OK || !reflect.DeepEqual(parser.Bare(x), parser.Bare(y)) {
			t.Fatalf("P19.5: %q: %q %d %v", s, text, e, p)
		}
		if again, e := parser.Print(y); again != text || e != api.OK {
			t.Fatalf("P19.5: %q: %q", text, again)
		}
	}
	if good < 500 || bad < 500 {
		t.Error("the test has not met enough:", good, bad)
	}
}

func TestPrint(t *testing.T) {
	s := `policy a { rule r { vary "h" in "x" , "y" default "y" ; allow { sites 1 , 2 ; uses 3 ; } cost 5 kb ; stale 4 ; signed ; program p ; tags "t" ; } } program p effects reads , log { if a { } else { log b ; log c ; } repeat 3 { set header "h" = - 1 ; set status = 5 ; } }`
	x, p := parser.Parse(s)
	if text, e := parser.Print(x); text != s || e != api.OK || p.E != api.OK {
		t.Errorf("P19.3: %q %d %v", text, e, p)
	}
	y, _ := parser.Parse("program q { if a { } else { } } policy b { } program p { } policy a { }")
	if text, e := parser.Print(y); text != "policy b { } policy a { } program q { if a { } } program p { }" || e != api.OK {
		t.Errorf("P19.3: %q %d", text, e)
	}
	if text, e := parser.Print(api.PSource{}); text != "" || e != api.OK {
		t.Error("P19.3: nothing:", text, e)
	}
}

func TestFormOfExpr(t *testing.T) {
	a := name(0, "a")
	for i, x := range []api.PExpr{
		{}, {Op: -1}, {Op: 24}, {Op: api.PxNumber}, num(0, "01"), num(0, "x"), num(0, "-1"), name(0, ""), name(0, "if"), name(0, "A"), name(0, "a b"), {Op: api.PxText, S: "\n"}, {Op: api.PxText, S: strings.Repeat("x", 201)}, {Op: api.PxHeader, S: "é"}, {Op: api.PxTrue, S: "x"}, {Op: api.PxStatus, S: "x"},
		op(api.PxTrue, 0, a), op(api.PxFalse, 0, a), op(api.PxStatus, 0, a), {Op: api.PxNumber, S: "1", Args: []api.PExpr{a}}, {Op: api.PxName, S: "x", Args: []api.PExpr{a}}, {Op: api.PxHeader, S: "1", Args: []api.PExpr{a}}, {Op: api.PxText, S: "1", Args: []api.PExpr{a}},
		op(api.PxNeg, 0), op(api.PxNeg, 0, a, a), op(api.PxNot, 0), op(api.PxNot, 0, a, a), {Op: api.PxNeg, S: "x", Args: []api.PExpr{a}}, op(api.PxAdd, 0, a), op(api.PxAdd, 0, a, a, a), op(api.PxOr, 0), {Op: api.PxAnd, S: "x", Args: []api.PExpr{a, a}}, op(api.PxIn, 0, a), op(api.PxIn, 0), {Op: api.PxIn, S: "x", Args: []api.PExpr{a, a}},
		op(api.PxAdd, 0, a, api.PExpr{}), op(api.PxIn, 0, a, a, api.PExpr{Op: 99}),
	} {
		if s, e := parser.PrintExpr(x); s != "" || e != api.ErrForm {
			t.Error("P19.3: an expression that is not well-formed:", i, s, e)
		}
		if s, e := parser.Print(api.PSource{Programs: []api.PProgram{{Name: "p", Code: []api.PStmt{{Kind: api.PsLog, X: x}}}}}); s != "" || e != api.ErrForm {
			t.Error("P19.3: an expression that is not well-formed:", i, s, e)
		}
	}
	if s, e := parser.PrintExpr(op(api.PxIn, -7, a, a, a)); s != "a in ( a , a )" || e != api.OK {
		t.Error("P19.3:", s, e)
	}
}

func TestFormOfTrees(t *testing.T) {
	a := name(0, "a")
	body := []api.PStmt{{Kind: api.PsLog, X: a}}
	for i, x := range []api.PStmt{
		{}, {Kind: 10, X: a}, {Kind: -1, X: a}, {Kind: api.PsLet, X: a}, {Kind: api.PsLet, Name: "x"}, {Kind: api.PsLet, Name: "if", X: a}, {Kind: api.PsSet, Name: "X", X: a}, {Kind: api.PsLet, Name: "x", X: a, Body: body}, {Kind: api.PsSet, Name: "x", X: a, Else: body},
		{Kind: api.PsHeader, Name: "é", X: a}, {Kind: api.PsStatus, Name: "x", X: a}, {Kind: api.PsStatus}, {Kind: api.PsIf, Name: "x", X: a}, {Kind: api.PsIf}, {Kind: api.PsIf, X: a, Body: []api.PStmt{{}}}, {Kind: api.PsIf, X: a, Else: []api.PStmt{{}}}, {Kind: api.PsRepeat, X: a}, {Kind: api.PsRepeat, X: num(0, "1"), Else: body},
		{Kind: api.PsRepeat, X: op(api.PxNeg, 0, num(0, "1"))}, {Kind: api.PsRepeat, Name: "x", X: num(0, "1")}, {Kind: api.PsLog, Name: "x", X: a}, {Kind: api.PsLog, X: a, Body: body}, {Kind: api.PsDeny}, {Kind: api.PsReply, X: a, Else: body},
	} {
		if s, e := parser.Print(api.PSource{Programs: []api.PProgram{{Name: "p", Code: []api.PStmt{x}}}}); s != "" || e != api.ErrForm {
			t.Error("P19.3: a statement that is not well-formed:", i, s, e)
		}
	}
	n := api.PAmount{Number: "5"}
	texts := []string{"x"}
	for i, x := range []api.PClause{
		{}, {Kind: 18}, {Kind: -1}, {Kind: api.PcFrom, Amount: n}, {Kind: api.PcSites, Texts: []string{"1"}}, {Kind: api.PcUses, Amount: n}, {Kind: api.PcPattern}, {Kind: api.PcPattern, Texts: []string{"x", "y"}}, {Kind: api.PcPattern, Texts: texts, Name: "x"}, {Kind: api.PcPattern, Texts: texts, Amount: n}, {Kind: api.PcPattern, Texts: texts, HasDefault: true},
		{Kind: api.PcPattern, Texts: texts, Default: "x"}, {Kind: api.PcPattern, Texts: texts, Conds: []api.PClause{{Kind: api.PcPattern, Texts: texts}}}, {Kind: api.PcTags}, {Kind: api.PcTags, Texts: []string{"é"}}, {Kind: api.PcFresh}, {Kind: api.PcFresh, Amount: n, Texts: texts}, {Kind: api.PcFresh, Amount: api.PAmount{Number: "05"}}, {Kind: api.PcFresh, Amount: api.PAmount{Number: "5", Unit: "S"}},
		{Kind: api.PcCost, Amount: n, Name: "x"}, {Kind: api.PcVary, Name: "h"}, {Kind: api.PcVary, Texts: texts, Name: "é"}, {Kind: api.PcVary, Name: "h", Texts: texts, Default: "x"}, {Kind: api.PcVary, Name: "h", Texts: texts, Amount: n}, {Kind: api.PcSigned, Name: "x"}, {Kind: api.PcSigned, Texts: texts}, {Kind: api.PcProgram}, {Kind: api.PcProgram, Name: "p", Texts: texts},
		{Kind: api.PcAllow, Name: "x"}, {Kind: api.PcAllow, Texts: texts}, {Kind: api.PcAllow, Conds: []api.PClause{{}}}, {Kind: api.PcAllow, Conds: []api.PClause{{Kind: api.PcFresh, Amount: n}}}, {Kind: api.PcAllow, Conds: []api.PClause{{Kind: api.PcAllow}}}, {Kind: api.PcAllow, Conds: []api.PClause{{Kind: api.PcUses, Amount: api.PAmount{Number: "5", Unit: "s"}}}},
		{Kind: api.PcAllow, Conds: []api.PClause{{Kind: api.PcSites, Texts: texts}}}, {Kind: api.PcAllow, Conds: []api.PClause{{Kind: api.PcSites}}}, {Kind: api.PcAllow, Conds: []api.PClause{{Kind: api.PcClients}}}, {Kind: api.PcAllow, Conds: []api.PClause{{Kind: api.PcFrom}}}, {Kind: api.PcAllow, Conds: []api.PClause{{Kind: api.PcTo, Amount: n, Conds: []api.PClause{{Kind: api.PcFrom, Amount: n}}}}},
		{Kind: api.PcAllow, Amount: api.PAmount{Unit: "s"}},
	} {
		if s, e := parser.Print(api.PSource{Policies: []api.PPolicy{{Name: "a", Rules: []api.PRule{{Name: "r", Clauses: []api.PClause{x}}}}}}); s != "" || e != api.ErrForm {
			t.Error("P19.3: a clause that is not well-formed:", i, s, e)
		}
	}
	for i, x := range []api.PSource{
		{Policies: []api.PPolicy{{}}}, {Policies: []api.PPolicy{{Name: "a", Rules: []api.PRule{{}}}}}, {Programs: []api.PProgram{{}}}, {Programs: []api.PProgram{{Name: "p", Effects: []int{0}}}}, {Programs: []api.PProgram{{Name: "p", Effects: []int{7}}}}, {Programs: []api.PProgram{{Name: "p", Effects: []int{-1}}}}, {Policies: []api.PPolicy{{Name: "policy"}}},
	} {
		if s, e := parser.Print(x); s != "" || e != api.ErrForm {
			t.Error("P19.3: a tree that is not well-formed:", i, s, e)
		}
	}
	ok := api.PSource{Policies: []api.PPolicy{{Name: "a", At: -5, Rules: []api.PRule{{Name: "r", Clauses: []api.PClause{{Kind: api.PcVary, Name: "h", Texts: texts, HasDefault: true}, {Kind: api.PcSigned, Amount: api.PAmount{At: 9}}, {Kind: api.PcAllow}}}}}}}
	if s, e := parser.Print(ok); s != `policy a { rule r { vary "h" in "x" default "" ; signed ; allow { } } }` || e != api.OK {
		t.Error("P19.3:", s, e)
	}
}
