package parser

import (
	"weirgate/api"
	"weirgate/lexer"
)

// writer collects the tokens of a tree that is well-formed.
type writer struct{ tokens []api.Lexeme }

// text returns the source of the tokens.
func (w *writer) text() (string, api.Errno) {
	s, e := lexer.Text(w.tokens)
	switch {
	case e == api.ErrArg:
		return "", api.ErrForm
	case e != api.OK:
		return "", e
	case tooDeep(w.tokens) >= 0:
		return "", api.ErrLimit
	}
	return s, api.OK
}

func (w *writer) put(kind int, s string) {
	w.tokens = append(w.tokens, api.Lexeme{Kind: kind, S: s})
}

func (w *writer) word(s string)   { w.put(api.TkWord, s) }
func (w *writer) sign(s string)   { w.put(api.TkSign, s) }
func (w *writer) name(s string)   { w.put(api.TkName, s) }
func (w *writer) quoted(s string) { w.put(api.TkText, s) }
func (w *writer) number(s string) { w.put(api.TkNumber, s) }

// between writes elements with commas between.
func between[T any](w *writer, l []T, one func(T)) {
	for i, x := range l {
		if i > 0 {
			w.sign(",")
		}
		one(x)
	}
}

// enclosed writes elements in braces.
func enclosed[T any](w *writer, l []T, one func(T)) {
	w.sign("{")
	for _, x := range l {
		one(x)
	}
	w.sign("}")
}

func (w *writer) source(x api.PSource) {
	for _, p := range x.Policies {
		w.word("policy")
		w.name(p.Name)
		enclosed(w, p.Rules, w.rule)
	}
	for _, p := range x.Programs {
		w.word("program")
		w.name(p.Name)
		if len(p.Effects) > 0 {
			w.word("effects")
			between(w, p.Effects, func(e int) { w.word(effects[e]) })
		}
		enclosed(w, p.Code, w.stmt)
	}
}

func (w *writer) rule(r api.PRule) {
	w.word("rule")
	w.name(r.Name)
	enclosed(w, r.Clauses, w.clause)
}

// clauseWords are the words of clauses, by their kinds.
var clauseWords = [18]string{
	"", "pattern", "tags", "fresh", "stale", "down", "negative", "cost", "vary", "allow", "signed", "program",
	"from", "to", "clients", "countries", "sites", "uses",
}

// clause writes a clause of a rule, or of allow.
func (w *writer) clause(c api.PClause) {
	w.word(clauseWords[c.Kind])
	switch c.Kind {
	case api.PcAllow:
		enclosed(w, c.Conds, w.clause)
		return
	case api.PcProgram:
		w.name(c.Name)
	case api.PcSites:
		between(w, c.Texts, w.number)
	case api.PcVary:
		w.quoted(c.Name)
		w.word("in")
		between(w, c.Texts, w.quoted)
		if c.HasDefault {
			w.word("default")
			w.quoted(c.Default)
		}
	case api.PcFresh, api.PcStale, api.PcDown, api.PcNegative, api.PcCost, api.PcFrom, api.PcTo, api.PcUses:
		w.number(c.Amount.Number)
		if c.Amount.Unit != "" {
			w.name(c.Amount.Unit)
		}
	default:
		between(w, c.Texts, w.quoted)
	}
	w.sign(";")
}

func (w *writer) stmt(s api.PStmt) {
	switch s.Kind {
	case api.PsLet:
		w.word("let")
		w.name(s.Name)
		w.sign("=")
	case api.PsSet:
		w.word("set")
		w.name(s.Name)
		w.sign("=")
	case api.PsHeader:
		w.word("set")
		w.word("header")
		w.quoted(s.Name)
		w.sign("=")
	case api.PsStatus:
		w.word("set")
		w.word("status")
		w.sign("=")
	case api.PsLog:
		w.word("log")
	case api.PsDeny:
		w.word("deny")
	case api.PsReply:
		w.word("reply")
	default:
		w.nested(s)
		return
	}
	w.expr(s.X)
	w.sign(";")
}

// nested writes a statement with blocks.
func (w *writer) nested(s api.PStmt) {
	if s.Kind == api.PsRepeat {
		w.word("repeat")
	} else {
		w.word("if")
	}
	w.expr(s.X)
	enclosed(w, s.Body, w.stmt)
	if len(s.Else) == 0 {
		return
	}
	w.word("else")
	if len(s.Else) == 1 && s.Else[0].Kind == api.PsIf {
		w.stmt(s.Else[0])
	} else {
		enclosed(w, s.Else, w.stmt)
	}
}

func (w *writer) expr(x api.PExpr) {
	switch x.Op {
	case api.PxNumber:
		w.number(x.S)
	case api.PxText:
		w.quoted(x.S)
	case api.PxName:
		w.name(x.S)
	case api.PxTrue:
		w.word("true")
	case api.PxFalse:
		w.word("false")
	case api.PxHeader:
		w.word("header")
		w.quoted(x.S)
	case api.PxStatus:
		w.word("status")
	case api.PxNeg:
		w.sign("-")
		w.argument(x.Args[0])
	case api.PxNot:
		w.word("not")
		w.argument(x.Args[0])
	case api.PxIn:
		w.argument(x.Args[0])
		w.word("in")
		w.sign("(")
		between(w, x.Args[1:], w.expr)
		w.sign(")")
	default:
		w.argument(x.Args[0])
		w.operator(x.Op)
		w.argument(x.Args[1])
	}
}

// argument writes an argument of an operator.
func (w *writer) argument(x api.PExpr) {
	if len(x.Args) == 0 {
		w.expr(x)
		return
	}
	w.sign("(")
	w.expr(x)
	w.sign(")")
}

// operator writes the sign or the word of an operator with two arguments.
func (w *writer) operator(op int) {
	s := operators[op-api.PxAdd].s
	if lexer.Word(s) {
		w.word(s)
	} else {
		w.sign(s)
	}
}
