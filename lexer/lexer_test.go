package lexer_test

import (
	"math"
	"math/rand"
	"slices"
	"strconv"
	"strings"
	"testing"

	"weirgate/api"
	"weirgate/lexer"
)

const wordList = "allow, and, clients, cost, countries, default, deny, down, effects, else, false, fresh, from, header, if, in, let, log, negative, not, or, pattern, policy, program, reads, repeat, reply, rule, set, signed, sites, stale, status, tags, to, true, uses, vary, writes"

const signList = "{ } ( ) [ ] , ; : = == != < > <= >= + - * / % .."

func lexeme(kind int, s string) api.Lexeme { return api.Lexeme{Kind: kind, S: s} }

// bare returns tokens without offsets.
func bare(l []api.Lexeme) []api.Lexeme {
	l = slices.Clone(l)
	for i := range l {
		l[i].At = 0
	}
	return l
}

func TestWords(t *testing.T) {
	want := strings.Split(wordList, ", ")
	l := lexer.Words()
	if !slices.Equal(l, want) || !slices.IsSorted(l) {
		t.Error("P18.1: Words:", l)
	}
	l[0] = "x"
	if lexer.Words()[0] != "allow" {
		t.Error("P18.1: Words shares memory")
	}
	for _, w := range want {
		if !lexer.Word(w) || lexer.Word(w+"x") || lexer.Word(w[1:]) && !slices.Contains(want, w[1:]) {
			t.Error("P18.1: Word:", w)
		}
	}
	for _, w := range []string{"", "a", "zzz", "Allow", "allow ", "effect"} {
		if lexer.Word(w) {
			t.Error("P18.1: Word:", w)
		}
	}
}

func TestExamples(t *testing.T) {
	for _, x := range []struct {
		s    string
		want []api.Lexeme
	}{
		{"fresh 60 s; # a minute", []api.Lexeme{{Kind: api.TkWord, At: 0, S: "fresh"}, {Kind: api.TkNumber, At: 6, S: "60"}, {Kind: api.TkName, At: 9, S: "s"}, {Kind: api.TkSign, At: 10, S: ";"}}},
		{"a<=b..c", []api.Lexeme{{Kind: api.TkName, At: 0, S: "a"}, {Kind: api.TkSign, At: 1, S: "<="}, {Kind: api.TkName, At: 3, S: "b"}, {Kind: api.TkSign, At: 4, S: ".."}, {Kind: api.TkName, At: 6, S: "c"}}},
		{`"say \"x\""`, []api.Lexeme{{Kind: api.TkText, S: `say "x"`}}},
		{"", nil}, {" \t\r\n", nil}, {"#", nil}, {"# x ? \" \n", nil}, {"#\n#x\na", []api.Lexeme{{Kind: api.TkName, At: 5, S: "a"}}},
		{"<==", []api.Lexeme{{Kind: api.TkSign, At: 0, S: "<="}, {Kind: api.TkSign, At: 2, S: "="}}}, {"===", []api.Lexeme{{Kind: api.TkSign, At: 0, S: "=="}, {Kind: api.TkSign, At: 2, S: "="}}},
		{"ifx if if_ i f0", []api.Lexeme{{Kind: api.TkName, At: 0, S: "ifx"}, {Kind: api.TkWord, At: 4, S: "if"}, {Kind: api.TkName, At: 7, S: "if_"}, {Kind: api.TkName, At: 11, S: "i"}, {Kind: api.TkName, At: 13, S: "f0"}}},
		{"0 10..5", []api.Lexeme{{Kind: api.TkNumber, At: 0, S: "0"}, {Kind: api.TkNumber, At: 2, S: "10"}, {Kind: api.TkSign, At: 4, S: ".."}, {Kind: api.TkNumber, At: 6, S: "5"}}},
		{`""" ~#"`, []api.Lexeme{{Kind: api.TkText, S: ""}, {Kind: api.TkText, At: 2, S: " ~#"}}}, {`"\\"`, []api.Lexeme{{Kind: api.TkText, S: `\`}}}, {`"a"b"c"`, []api.Lexeme{{Kind: api.TkText, S: "a"}, {Kind: api.TkName, At: 3, S: "b"}, {Kind: api.TkText, At: 4, S: "c"}}},
		{"a#b\nc", []api.Lexeme{{Kind: api.TkName, S: "a"}, {Kind: api.TkName, At: 4, S: "c"}}}, {"x=-1", []api.Lexeme{{Kind: api.TkName, S: "x"}, {Kind: api.TkSign, At: 1, S: "="}, {Kind: api.TkSign, At: 2, S: "-"}, {Kind: api.TkNumber, At: 3, S: "1"}}},
	} {
		if l, p := lexer.Tokens(x.s); !slices.Equal(l, x.want) || p != (api.Problem{}) {
			t.Errorf("P18.2: Tokens(%q): %v %v", x.s, l, p)
		}
	}
	for _, s := range strings.Fields(signList) {
		if l, p := lexer.Tokens(s); !slices.Equal(l, []api.Lexeme{lexeme(api.TkSign, s)}) || p.E != api.OK {
			t.Errorf("P18.2: the sign %q: %v %v", s, l, p)
		}
	}
}

func TestProblems(t *testing.T) {
	n18, name, text := strings.Repeat("9", 18), strings.Repeat("n", 40), strings.Repeat("t", 200)
	for _, x := range []struct {
		s  string
		at int
		e  api.Errno
	}{
		{"007", 0, 181}, {"3m", 0, 181}, {"x ?", 2, 180}, {`"a`, 0, 182}, {"a 00", 2, 181}, {n18 + "9", 0, 181}, {n18, 0, 0}, {"5M", 0, 181}, {"5_", 0, 181}, {"5é", 1, 180}, {"0x", 0, 181}, {"01", 0, 181},
		{name, 0, 0}, {name + "n", 0, 2}, {"b " + name + "_", 2, 2}, {"allow" + name, 0, 2}, {`"` + text + `"`, 0, 0}, {`"` + text + `t"`, 0, 182}, {`"` + text[1:] + `\""`, 0, 0}, {`"` + text + `\""`, 0, 182},
		{`"\n"`, 0, 182}, {"\"a\nb\"", 0, 182}, {"\"\x1f\"", 0, 182}, {"\"\x7f\"", 0, 182}, {"\"\t\"", 0, 182}, {`"\`, 0, 182}, {`"\"`, 0, 182}, {`"`, 0, 182}, {"a \"é\"", 2, 182},
		{"A", 0, 180}, {"_a", 0, 180}, {".", 0, 180}, {"a.b", 1, 180}, {"!", 0, 180}, {"!!=", 0, 180}, {"&", 0, 180}, {"'a'", 0, 180}, {"\v", 0, 180}, {"\x00", 0, 180}, {"...", 2, 180}, {"#x\n?", 3, 180}, {"{}[]()\\", 6, 180}, {"? 007", 0, 180}, {"007 ?", 0, 181},
		{strings.Repeat(" ", api.MaxSource), 0, 0}, {strings.Repeat(" ", api.MaxSource+1), 0, 2}, {strings.Repeat("?", api.MaxSource+1), 0, 2},
	} {
		l, p := lexer.Tokens(x.s)
		if p != (api.Problem{At: x.at, E: x.e}) || x.e != api.OK && l != nil {
			t.Errorf("P18.2: Tokens(%.30q): %v, want %d %d", x.s, p, x.at, x.e)
		}
	}
	for c := range 256 {
		s := "a " + string([]byte{byte(c)})
		_, p := lexer.Tokens(s)
		begins := strings.IndexByte(" \t\r\n#{}()[],;:=<>+-*/%", byte(c)) >= 0 || c >= 'a' && c <= 'z' || c >= '0' && c <= '9'
		if c == '"' {
			if p != (api.Problem{At: 2, E: api.ErrText}) {
				t.Error("P18.2: a quote:", p)
			}
		} else if begins != (p.E == api.OK) || !begins && p != (api.Problem{At: 2, E: api.ErrSyntax}) {
			t.Error("P18.2: the byte", c, p)
		}
	}
}

func TestText(t *testing.T) {
	l := []api.Lexeme{lexeme(api.TkWord, "if"), {Kind: api.TkName, At: 99, S: "x_1"}, {Kind: api.TkNumber, At: -5, S: "10"}, lexeme(api.TkText, `a "b" \`), lexeme(api.TkSign, "==")}
	s, e := lexer.Text(l)
	if s != `if x_1 10 "a \"b\" \\" ==` || e != api.OK {
		t.Error("P18.3:", s, e)
	}
	if back, p := lexer.Tokens(s); !slices.Equal(bare(back), bare(l)) || p.E != api.OK {
		t.Error("P18.6:", back, p)
	}
	if s, e := lexer.Text(nil); s != "" || e != api.OK {
		t.Error("P18.3: no tokens:", s, e)
	}
	for i, x := range []api.Lexeme{
		{}, lexeme(6, "a"), lexeme(-1, "a"), lexeme(api.TkName, ""), lexeme(api.TkName, "if"), lexeme(api.TkWord, "x"), lexeme(api.TkName, "a b"), lexeme(api.TkName, " a"), lexeme(api.TkName, "a "), lexeme(api.TkName, "a#"), lexeme(api.TkName, "1"), lexeme(api.TkName, strings.Repeat("n", 41)),
		lexeme(api.TkNumber, "007"), lexeme(api.TkNumber, ""), lexeme(api.TkNumber, "-1"), lexeme(api.TkNumber, "a"), lexeme(api.TkNumber, strings.Repeat("1", 19)), lexeme(api.TkText, "\n"), lexeme(api.TkText, "é"), lexeme(api.TkText, strings.Repeat("t", 201)),
		lexeme(api.TkSign, "."), lexeme(api.TkSign, "=>"), lexeme(api.TkSign, "a"), lexeme(api.TkSign, "# "), lexeme(api.TkName, `"a"`), lexeme(api.TkSign, strings.Repeat(" ", api.MaxSource)+"="),
	} {
		if s, e := lexer.Text([]api.Lexeme{lexeme(api.TkName, "a"), x}); s != "" || e != api.ErrArg {
			t.Error("P18.3: no token:", i, s, e)
		}
		if n, e := lexer.Value(x); n != 0 || e != api.ErrArg {
			t.Error("P18.4: no token:", i, n, e)
		}
	}
	long := slices.Repeat([]api.Lexeme{lexeme(api.TkName, "abc")}, api.MaxSource/4)
	if s, e := lexer.Text(append(slices.Clone(long), lexeme(api.TkSign, ";"))); e != api.ErrLimit || s != "" {
		t.Error("P18.3: too long:", e)
	}
	if s, e := lexer.Text(long); e != api.OK || len(s) != api.MaxSource-1 {
		t.Error("P18.3: nearly too long:", e)
	}
	long[0].S = "abcd"
	if s, e := lexer.Text(long); e != api.OK || len(s) != api.MaxSource {
		t.Error("P18.3: as long as possible:", e)
	}
	if s, e := lexer.Text(append(slices.Clone(long), lexeme(api.TkSign, "."))); e != api.ErrArg || s != "" {
		t.Error("P18.3: ErrArg comes first:", e)
	}
}

func TestValue(t *testing.T) {
	for _, s := range []string{"0", "7", "60", strings.Repeat("9", 18)} {
		want, _ := strconv.Atoi(s)
		if n, e := lexer.Value(api.Lexeme{Kind: api.TkNumber, At: 4, S: s}); n != want || e != api.OK {
			t.Error("P18.4:", s, n, e)
		}
	}
	for i, x := range []api.Lexeme{lexeme(api.TkName, "a"), lexeme(api.TkText, "5"), lexeme(api.TkWord, "if"), lexeme(api.TkSign, "="), lexeme(api.TkName, "5")} {
		if n, e := lexer.Value(x); n != 0 || e != api.ErrArg {
			t.Error("P18.4: no number:", i, n, e)
		}
	}
}

func TestPlace(t *testing.T) {
	s := "ab\n\ncd\re\n"
	line, column := 1, 1
	for at := range len(s) + 1 {
		if l, c := lexer.Place(s, at); l != line || c != column {
			t.Error("P18.5:", at, l, c)
		}
		if at < len(s) && s[at] == '\n' {
			line, column = line+1, 1
		} else {
			column++
		}
	}
	for _, at := range []int{-1, len(s) + 1, math.MinInt, math.MaxInt} {
		if l, c := lexer.Place(s, at); l != 0 || c != 0 {
			t.Error("P18.5: no offset:", at, l, c)
		}
	}
	if l, c := lexer.Place("", 0); l != 1 || c != 1 {
		t.Error("P18.5: the empty source:", l, c)
	}
}

func randomSource(r *rand.Rand) string {
	parts := []string{"policy", "x", "if", "a_1", "5", "0", `"t"`, `"\""`, "{", "}", "<=", "=", "..", "# c\n", " ", "\n", "\t", "+"}
	if r.Intn(3) == 0 {
		parts = append(parts, "?", "007", `"`, ".")
	}
	var b strings.Builder
	for range r.Intn(12) {
		b.WriteString(parts[r.Intn(len(parts))])
	}
	return b.String()
}

func TestSpaceAndParts(t *testing.T) {
	r := rand.New(rand.NewSource(1))
	for range 5000 {
		one, two := randomSource(r), randomSource(r)
		a, p := lexer.Tokens(one)
		b, q := lexer.Tokens(two)
		both, f := lexer.Tokens(one + "\n" + two)
		if p.E != api.OK && f != p {
			t.Fatalf("P18.7: a problem of %q: %v %v", one, p, f)
		}
		if p.E != api.OK {
			continue
		}
		if q.E != api.OK {
			if f != (api.Problem{At: q.At + len(one) + 1, E: q.E}) {
				t.Fatalf("P18.7: a problem of the second source %q %q: %v", one, two, f)
			}
			continue
		}
		for i := range b {
			b[i].At += len(one) + 1
		}
		if f.E != api.OK || !slices.Equal(both, append(slices.Clone(a), b...)) {
			t.Fatalf("P18.7: %q and %q: %v", one, two, both)
		}
		s, e := lexer.Text(both)
		again, g := lexer.Tokens(s)
		if e != api.OK || g.E != api.OK || !slices.Equal(bare(again), bare(both)) {
			t.Fatalf("P18.6: %q: %q", one, s)
		}
		for i, x := range both[:max(0, len(both)-1)] {
			wide, _ := lexer.Text(both[:i+1])
			rest, _ := lexer.Text(both[i+1:])
			again, g := lexer.Tokens(wide + []string{"\t", "\r\n ", "#?\n", "  "}[i%4] + rest)
			if g.E != api.OK || !slices.Equal(bare(again), bare(both)) {
				t.Fatalf("P18.6: other space behind %v", x)
			}
		}
	}
}
