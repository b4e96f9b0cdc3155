package parser_test

import (
	"math/rand"
	"strings"

	"weirgate/api"
)

// grammarText is the grammar of the chapter without { } and [ ]: a line has a symbol and one of its forms. Symbols in capital letters are kinds of tokens.
const grammarText = `
source
source policy source
source program source
policy "policy" NAME "{" rules "}"
rules
rules rule rules
rule "rule" NAME "{" clauses "}"
clauses
clauses clause clauses
clause pattern
clause "tags" texts ";"
clause time amount ";"
time "fresh"
time "stale"
time "down"
time "negative"
time "cost"
clause "vary" TEXT "in" texts default ";"
default
default "default" TEXT
clause "allow" "{" conds "}"
clause "signed" ";"
clause "program" NAME ";"
conds
conds cond conds
cond pattern
cond "from" amount ";"
cond "to" amount ";"
cond "clients" texts ";"
cond "countries" texts ";"
cond "sites" numbers ";"
cond "uses" NUMBER ";"
numbers NUMBER
numbers NUMBER "," numbers
pattern "pattern" TEXT ";"
texts TEXT
texts TEXT "," texts
amount NUMBER
amount NUMBER NAME
program "program" NAME declared block
declared
declared "effects" effects
effects effect
effects effect "," effects
effect "reads"
effect "writes"
effect "status"
effect "log"
effect "deny"
effect "reply"
block "{" stmts "}"
stmts
stmts stmt stmts
stmt "let" NAME "=" or ";"
stmt "set" NAME "=" or ";"
stmt "set" "header" TEXT "=" or ";"
stmt "set" "status" "=" or ";"
stmt if
stmt "repeat" NUMBER block
stmt "log" or ";"
stmt "deny" or ";"
stmt "reply" or ";"
if "if" or block
if "if" or block "else" block
if "if" or block "else" if
or and
or or "or" and
and not
and and "and" not
not less
not "not" not
less sum
less sum "==" sum
less sum "!=" sum
less sum "<" sum
less sum ">" sum
less sum "<=" sum
less sum ">=" sum
less sum "in" "(" ors ")"
ors or
ors or "," ors
sum product
sum sum "+" product
sum sum "-" product
product minus
product product "*" minus
product product "/" minus
product product "%" minus
minus atom
minus "-" minus
atom NUMBER
atom TEXT
atom NAME
atom "true"
atom "false"
atom "header" TEXT
atom "status"
atom "(" or ")"
`

type production struct {
	left  string
	right []string
}

func grammar() map[string][]production {
	g := map[string][]production{}
	for _, line := range strings.Split(strings.TrimSpace(grammarText), "\n") {
		f := strings.Fields(line)
		g[f[0]] = append(g[f[0]], production{f[0], f[1:]})
	}
	return g
}

// fits reports whether a token is what a symbol stands for, which is no symbol of productions.
func fits(t api.Lexeme, symbol string) bool {
	switch symbol {
	case "NAME":
		return t.Kind == api.TkName
	case "NUMBER":
		return t.Kind == api.TkNumber
	case "TEXT":
		return t.Kind == api.TkText
	}
	return (t.Kind == api.TkWord || t.Kind == api.TkSign) && `"`+t.S+`"` == symbol
}

// state is a production of which a part was found from a token on.
type state struct {
	p        *production
	dot, was int
}

// viable returns with how many of the first tokens something that is a symbol can begin, and whether all of them are such a thing (Earley's algorithm).
func viable(g map[string][]production, start string, tokens []api.Lexeme) (int, bool) {
	begin := &production{"", []string{start}}
	sets := []map[state]bool{{}}
	work := []state{{begin, 0, 0}}
	for i := 0; ; i++ {
		set := sets[i]
		var order []state
		add := func(s state) {
			if !set[s] {
				set[s] = true
				order = append(order, s)
			}
		}
		for _, s := range work {
			add(s)
		}
		for changed := true; changed; { // again, as symbols may be empty
			changed = false
			for k := 0; k < len(order); k++ {
				s := order[k]
				before := len(order)
				if s.dot == len(s.p.right) {
					for o := range sets[s.was] {
						if o.dot < len(o.p.right) && o.p.right[o.dot] == s.p.left {
							add(state{o.p, o.dot + 1, o.was})
						}
					}
				} else {
					l := g[s.p.right[s.dot]]
					for n := range l {
						add(state{&l[n], 0, i})
					}
				}
				changed = changed || len(order) > before
			}
		}
		done := set[state{begin, 1, 0}]
		if i == len(tokens) {
			return i, done
		}
		work = nil
		for _, s := range order {
			if s.dot < len(s.p.right) && g[s.p.right[s.dot]] == nil && fits(tokens[i], s.p.right[s.dot]) {
				work = append(work, state{s.p, s.dot + 1, s.was})
			}
		}
		if len(work) == 0 {
			return i, false
		}
		sets = append(sets, map[state]bool{})
	}
}

// derive returns random tokens that are a symbol; with less and less fuel the first forms are taken, or those that end.
func derive(r *rand.Rand, g map[string][]production, symbol string, fuel *int) []api.Lexeme {
	l := g[symbol]
	if l == nil {
		return []api.Lexeme{terminal(r, symbol)}
	}
	*fuel--
	p := l[r.Intn(len(l))]
	if *fuel < 0 {
		p = l[0]
		if symbol == "atom" {
			p = l[r.Intn(3)]
		}
	}
	var tokens []api.Lexeme
	for _, s := range p.right {
		tokens = append(tokens, derive(r, g, s, fuel)...)
	}
	return tokens
}

func terminal(r *rand.Rand, symbol string) api.Lexeme {
	switch symbol {
	case "NAME":
		return api.Lexeme{Kind: api.TkName, S: []string{"a", "acme", "s", "kb"}[r.Intn(4)]}
	case "NUMBER":
		return api.Lexeme{Kind: api.TkNumber, S: []string{"0", "1", "60"}[r.Intn(3)]}
	case "TEXT":
		return api.Lexeme{Kind: api.TkText, S: []string{"", "x", "fresh", "+", "acme/**"}[r.Intn(5)]}
	}
	s := strings.Trim(symbol, `"`)
	if s[0] >= 'a' && s[0] <= 'z' {
		return api.Lexeme{Kind: api.TkWord, S: s}
	}
	return api.Lexeme{Kind: api.TkSign, S: s}
}
