package parser

import (
	"slices"

	"weirgate/api"
)

// reader reads tokens one after the other. It looks at no token but the next one, and panics with a problem at the first one that does not fit.
type reader struct {
	tokens  []api.Lexeme
	end     int // the offset of the end
	clauses map[string]clauseForm
	conds   map[string]clauseForm
	stmts   map[string]stmtForm
}

// clauseForm is what a word begins: a clause of a kind, and what reads the rest of it.
type clauseForm struct {
	kind int
	rest func(c *api.PClause)
}

// stmtForm is the same for statements.
type stmtForm struct {
	kind int
	rest func(s *api.PStmt)
}

func newReader(tokens []api.Lexeme, end int) *reader {
	r := &reader{tokens: tokens, end: end}
	r.clauses = map[string]clauseForm{
		"pattern": {api.PcPattern, r.pattern}, "tags": {api.PcTags, r.textsClause}, "fresh": {api.PcFresh, r.amountClause},
		"stale": {api.PcStale, r.amountClause}, "down": {api.PcDown, r.amountClause}, "negative": {api.PcNegative, r.amountClause},
		"cost": {api.PcCost, r.amountClause}, "vary": {api.PcVary, r.vary}, "allow": {api.PcAllow, r.allow},
		"signed": {api.PcSigned, r.signed}, "program": {api.PcProgram, r.programClause},
	}
	r.conds = map[string]clauseForm{
		"pattern": {api.PcPattern, r.pattern}, "from": {api.PcFrom, r.amountClause}, "to": {api.PcTo, r.amountClause},
		"clients": {api.PcClients, r.textsClause}, "countries": {api.PcCountries, r.textsClause},
		"sites": {api.PcSites, r.sites}, "uses": {api.PcUses, r.uses},
	}
	r.stmts = map[string]stmtForm{
		"let": {api.PsLet, r.let}, "set": {api.PsSet, r.set}, "if": {api.PsIf, r.ifRest}, "repeat": {api.PsRepeat, r.repeat},
		"log": {api.PsLog, r.value}, "deny": {api.PsDeny, r.value}, "reply": {api.PsReply, r.value},
	}
	return r
}

// peek returns the next token; one without a kind at the end.
func (r *reader) peek() api.Lexeme {
	if len(r.tokens) == 0 {
		return api.Lexeme{At: r.end}
	}
	return r.tokens[0]
}

func (r *reader) fail() { panic(api.Problem{At: r.peek().At, E: api.ErrSyntax}) }

// kind reads a token of a kind.
func (r *reader) kind(kind int) api.Lexeme {
	t := r.peek()
	if t.Kind != kind {
		r.fail()
	}
	r.tokens = r.tokens[1:]
	return t
}

// isNext reports whether the next token is a given one.
func (r *reader) isNext(kind int, s string) bool {
	t := r.peek()
	return t.Kind == kind && t.S == s
}

// accept reads a given token, if it is the next one.
func (r *reader) accept(kind int, s string) bool {
	ok := r.isNext(kind, s)
	if ok {
		r.tokens = r.tokens[1:]
	}
	return ok
}

// word reads a given word.
func (r *reader) word(s string) api.Lexeme {
	if !r.isNext(api.TkWord, s) {
		r.fail()
	}
	return r.kind(api.TkWord)
}

// sign reads a given sign.
func (r *reader) sign(s string) {
	if !r.accept(api.TkSign, s) {
		r.fail()
	}
}

func (r *reader) name() string   { return r.kind(api.TkName).S }
func (r *reader) text() string   { return r.kind(api.TkText).S }
func (r *reader) number() string { return r.kind(api.TkNumber).S }

// list reads one or more elements with commas between.
func list[T any](r *reader, one func() T) []T {
	l := []T{one()}
	for r.accept(api.TkSign, ",") {
		l = append(l, one())
	}
	return l
}

// braces reads any number of elements in braces.
func braces[T any](r *reader, one func() T) []T {
	var l []T
	r.sign("{")
	for !r.accept(api.TkSign, "}") {
		l = append(l, one())
	}
	return l
}

func (r *reader) source() api.PSource {
	var x api.PSource
	for r.peek().Kind != 0 {
		if r.isNext(api.TkWord, "policy") {
			x.Policies = append(x.Policies, r.policy())
		} else {
			x.Programs = append(x.Programs, r.program())
		}
	}
	return x
}

func (r *reader) policy() api.PPolicy {
	at := r.word("policy").At
	return api.PPolicy{At: at, Name: r.name(), Rules: braces(r, r.rule)}
}

func (r *reader) rule() api.PRule {
	at := r.word("rule").At
	return api.PRule{At: at, Name: r.name(), Clauses: braces(r, r.clause)}
}

func (r *reader) clause() api.PClause { return r.formed(r.clauses) }

func (r *reader) cond() api.PClause { return r.formed(r.conds) }

// formed reads a clause by the form of its word.
func (r *reader) formed(forms map[string]clauseForm) api.PClause {
	t := r.peek()
	f, ok := forms[t.S]
	if !ok {
		r.fail()
	}
	c := api.PClause{Kind: f.kind, At: r.kind(api.TkWord).At}
	f.rest(&c)
	return c
}

func (r *reader) pattern(c *api.PClause) {
	c.Texts = []string{r.text()}
	r.sign(";")
}

func (r *reader) textsClause(c *api.PClause) {
	c.Texts = list(r, r.text)
	r.sign(";")
}

func (r *reader) sites(c *api.PClause) {
	c.Texts = list(r, r.number)
	r.sign(";")
}

func (r *reader) amountClause(c *api.PClause) {
	t := r.kind(api.TkNumber)
	c.Amount = api.PAmount{Number: t.S, At: t.At}
	if r.peek().Kind == api.TkName {
		c.Amount.Unit = r.name()
	}
	r.sign(";")
}

func (r *reader) uses(c *api.PClause) {
	t := r.kind(api.TkNumber)
	c.Amount = api.PAmount{Number: t.S, At: t.At}
	r.sign(";")
}

func (r *reader) vary(c *api.PClause) {
	c.Name = r.text()
	r.word("in")
	c.Texts = list(r, r.text)
	if r.accept(api.TkWord, "default") {
		c.Default, c.HasDefault = r.text(), true
	}
	r.sign(";")
}

func (r *reader) allow(c *api.PClause) { c.Conds = braces(r, r.cond) }

func (r *reader) signed(*api.PClause) { r.sign(";") }

func (r *reader) programClause(c *api.PClause) {
	c.Name = r.name()
	r.sign(";")
}

func (r *reader) program() api.PProgram {
	p := api.PProgram{At: r.word("program").At, Name: r.name()}
	if r.accept(api.TkWord, "effects") {
		p.Effects = list(r, r.effect)
	}
	p.Code = r.block()
	return p
}

func (r *reader) effect() int {
	i := slices.Index(effects[:], r.peek().S)
	if i < 1 {
		r.fail()
	}
	r.kind(api.TkWord)
	return i
}

func (r *reader) block() []api.PStmt { return braces(r, r.stmt) }

func (r *reader) stmt() api.PStmt {
	f, ok := r.stmts[r.peek().S]
	if !ok {
		r.fail()
	}
	s := api.PStmt{Kind: f.kind, At: r.kind(api.TkWord).At}
	f.rest(&s)
	return s
}

func (r *reader) let(s *api.PStmt) {
	s.Name = r.name()
	r.assigned(s)
}

func (r *reader) set(s *api.PStmt) {
	switch {
	case r.accept(api.TkWord, "header"):
		s.Kind, s.Name = api.PsHeader, r.text()
	case r.accept(api.TkWord, "status"):
		s.Kind = api.PsStatus
	default:
		s.Name = r.name()
	}
	r.assigned(s)
}

func (r *reader) assigned(s *api.PStmt) {
	r.sign("=")
	r.value(s)
}

func (r *reader) value(s *api.PStmt) {
	s.X = r.or()
	r.sign(";")
}

func (r *reader) ifRest(s *api.PStmt) {
	s.X = r.or()
	s.Body = r.block()
	if !r.accept(api.TkWord, "else") {
		return
	}
	if r.isNext(api.TkWord, "if") {
		s.Else = []api.PStmt{r.stmt()}
	} else {
		s.Else = r.block()
	}
}

func (r *reader) repeat(s *api.PStmt) {
	t := r.kind(api.TkNumber)
	s.X = api.PExpr{Op: api.PxNumber, At: t.At, S: t.S}
	s.Body = r.block()
}
