package effect

import (
	"cmp"

	"weirgate/api"
	"weirgate/typing"
)

// maxCost is the greatest cost that is told.
const maxCost = 1 << 40

// Most returns the greatest cost of a program.
func Most(p api.Program) (int, api.Errno) { return told(p, func(s span) int { return s.most }) }

// Least returns the least cost of a program.
func Least(p api.Program) (int, api.Errno) { return told(p, func(s span) int { return s.least }) }

// Ends reports whether a program always ends with deny or reply.
func Ends(p api.Program) bool { return typing.Right(p) && !ofBlock(p.Code).goes.possible }

// told returns a cost of all that a program can do.
func told(p api.Program, which func(s span) int) (int, api.Errno) {
	if !typing.Right(p) {
		return 0, api.ErrArg
	}
	w := ofBlock(p.Code)
	n := which(either(w.goes, w.ends))
	if n > maxCost {
		return 0, api.ErrLimit
	}
	return n, api.OK
}

// span is between which costs something is possible, if it is at all.
type span struct {
	possible    bool
	least, most int
}

// ways is at which costs statements can go on, and at which they can end the run.
type ways struct{ goes, ends span }

// upTo returns a number, but no more than a bound.
func upTo[T cmp.Ordered](n, bound T) T { return min(n, bound) }

// exactly returns the span of one cost. What is greater than all that is told need not be known exactly.
func exactly(n int) span {
	n = upTo(n, maxCost+1)
	return span{true, n, n}
}

// then returns the span of one thing after another one.
func (s span) then(t span) span {
	if !s.possible || !t.possible {
		return span{}
	}
	return span{true, upTo(s.least+t.least, maxCost+1), upTo(s.most+t.most, maxCost+1)}
}

// times returns the span of a thing that is done n times.
func (s span) times(n int) span {
	if n == 0 {
		return exactly(0)
	}
	if !s.possible {
		return span{}
	}
	return span{true, upTo(s.least*n, maxCost+1), upTo(s.most*n, maxCost+1)}
}

// either returns the span of one of two things.
func either(s, t span) span {
	switch {
	case !s.possible:
		return t
	case !t.possible:
		return s
	}
	return span{true, min(s.least, t.least), max(s.most, t.most)}
}

// ofExpr returns the cost of an expression.
func ofExpr(x api.TExpr) int {
	n := 1
	for _, a := range x.Args {
		n = upTo(n+ofExpr(a), maxCost+1)
	}
	return n
}

func ofBlock(l []api.TStmt) ways {
	w := ways{goes: exactly(0)}
	for _, s := range l {
		next := ofStmt(s)
		w.ends = either(w.ends, w.goes.then(next.ends))
		w.goes = w.goes.then(next.goes)
	}
	return w
}

func ofStmt(s api.TStmt) ways {
	if s.Kind == api.PsRepeat {
		return ofRepeat(s)
	}
	cost := exactly(1 + ofExpr(s.X))
	switch s.Kind {
	case api.PsDeny, api.PsReply:
		return ways{ends: cost}
	case api.PsIf:
		a, b := ofBlock(s.Body), ofBlock(s.Else)
		return ways{cost.then(either(a.goes, b.goes)), cost.then(either(a.ends, b.ends))}
	}
	return ways{goes: cost}
}

// ofRepeat: the run may end in the first turn, in the last one, or between.
func ofRepeat(s api.TStmt) ways {
	body := ofBlock(s.Body)
	turn := exactly(1).then(body.goes)
	w := ways{goes: exactly(1).then(turn.times(s.N))}
	if s.N > 0 {
		end := exactly(2).then(body.ends)
		w.ends = either(end, turn.times(s.N-1).then(end))
	}
	return w
}
