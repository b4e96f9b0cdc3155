package parser

import "weirgate/api"

// binary returns the operator with two arguments whose sign or word a token is, of one of the levels below; 0 if it is none.
func binary(t api.Lexeme, level int) int {
	if t.Kind != api.TkSign && t.Kind != api.TkWord {
		return 0
	}
	for _, o := range operators {
		if o.level == level && o.s == t.S {
			return o.op
		}
	}
	return 0
}

// Levels of operators with two arguments.
const (
	levelOr = iota
	levelAnd
	levelLess
	levelSum
	levelProduct
)

// operators are the operators with two arguments, in the order of their numbers from PxAdd on.
var operators = [13]struct {
	s         string
	op, level int
}{
	{"+", api.PxAdd, levelSum}, {"-", api.PxSub, levelSum},
	{"*", api.PxMul, levelProduct}, {"/", api.PxDiv, levelProduct}, {"%", api.PxMod, levelProduct},
	{"<", api.PxLess, levelLess}, {">", api.PxMore, levelLess}, {"<=", api.PxAtMost, levelLess}, {">=", api.PxAtLeast, levelLess},
	{"==", api.PxEq, levelLess}, {"!=", api.PxNe, levelLess},
	{"and", api.PxAnd, levelAnd}, {"or", api.PxOr, levelOr},
}

// chain reads arguments with operators of a level between, which lead to the left.
func (r *reader) chain(level int, argument func() api.PExpr) api.PExpr {
	x := argument()
	for {
		t := r.peek()
		op := binary(t, level)
		if op == 0 {
			return x
		}
		r.kind(t.Kind)
		x = api.PExpr{Op: op, At: t.At, Args: []api.PExpr{x, argument()}}
	}
}

func (r *reader) or() api.PExpr { return r.chain(levelOr, r.and) }

func (r *reader) and() api.PExpr { return r.chain(levelAnd, r.not) }

func (r *reader) not() api.PExpr {
	if t := r.peek(); r.accept(api.TkWord, "not") {
		return api.PExpr{Op: api.PxNot, At: t.At, Args: []api.PExpr{r.not()}}
	}
	return r.less()
}

// less reads a comparison: there is one operator at most.
func (r *reader) less() api.PExpr {
	x := r.sum()
	t := r.peek()
	if op := binary(t, levelLess); op != 0 {
		r.kind(t.Kind)
		return api.PExpr{Op: op, At: t.At, Args: []api.PExpr{x, r.sum()}}
	}
	if r.accept(api.TkWord, "in") {
		r.sign("(")
		args := append([]api.PExpr{x}, list(r, r.or)...)
		r.sign(")")
		return api.PExpr{Op: api.PxIn, At: t.At, Args: args}
	}
	return x
}

func (r *reader) sum() api.PExpr { return r.chain(levelSum, r.product) }

func (r *reader) product() api.PExpr { return r.chain(levelProduct, r.minus) }

func (r *reader) minus() api.PExpr {
	if t := r.peek(); r.accept(api.TkSign, "-") {
		return api.PExpr{Op: api.PxNeg, At: t.At, Args: []api.PExpr{r.minus()}}
	}
	return r.atom()
}

func (r *reader) atom() api.PExpr {
	t := r.peek()
	x := api.PExpr{At: t.At}
	switch t.Kind {
	case api.TkNumber:
		x.Op, x.S = api.PxNumber, r.number()
	case api.TkText:
		x.Op, x.S = api.PxText, r.text()
	case api.TkName:
		x.Op, x.S = api.PxName, r.name()
	default:
		return r.wordAtom(x)
	}
	return x
}

// wordAtom reads an atom that begins with a word or a bracket.
func (r *reader) wordAtom(x api.PExpr) api.PExpr {
	switch {
	case r.accept(api.TkWord, "true"):
		x.Op = api.PxTrue
	case r.accept(api.TkWord, "false"):
		x.Op = api.PxFalse
	case r.accept(api.TkWord, "status"):
		x.Op = api.PxStatus
	case r.accept(api.TkWord, "header"):
		x.Op, x.S = api.PxHeader, r.text()
	case r.accept(api.TkSign, "("):
		x = r.or()
		r.sign(")")
	default:
		r.fail()
	}
	return x
}
