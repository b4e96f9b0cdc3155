package typing

import (
	"slices"
	"strings"

	"weirgate/api"
)

// Run returns what a program does.
func Run(p api.Program, e api.Edge, most int) (o api.Outcome, why api.Errno) {
	defer func() {
		if x := recover(); x != nil {
			o, why = api.Outcome{}, api.ErrKind
			if found, ok := x.(api.Errno); ok {
				why = found
			}
		}
	}()
	r := runner{left: most, slots: make([]api.Value, api.MaxSlots)}
	r.out.Edge = api.Edge{Headers: append([]api.Header(nil), e.Headers...), Status: e.Status}
	r.block(p.Code)
	return r.out, api.OK
}

// runner is a run under way; an error leaves it by a panic.
type runner struct {
	out   api.Outcome
	slots []api.Value
	left  int // what may be spent
}

// spend takes the cost of one step.
func (r *runner) spend() {
	if r.left <= 0 {
		panic(api.ErrFuel)
	}
	r.left--
}

// block runs statements, until the run ends.
func (r *runner) block(l []api.TStmt) {
	for _, s := range l {
		if r.out.End != api.EnRun {
			return
		}
		r.stmt(s)
	}
}

func (r *runner) stmt(s api.TStmt) {
	r.spend()
	if s.Kind == api.PsRepeat {
		for n := 0; n < s.N && r.out.End == api.EnRun; n++ {
			r.spend()
			r.block(s.Body)
		}
		return
	}
	v := r.expr(s.X)
	switch s.Kind {
	case api.PsLet, api.PsSet:
		r.slots[s.Slot] = v
	case api.PsHeader:
		r.out.Edge.Headers = put(r.out.Edge.Headers, api.Header{Name: s.Name, Value: v.S})
	case api.PsStatus:
		if v.N < 100 || v.N > 599 {
			panic(api.ErrValue)
		}
		r.out.Edge.Status = v.N
	case api.PsIf:
		if v.N == 1 {
			r.block(s.Body)
		} else {
			r.block(s.Else)
		}
	case api.PsLog:
		if len(r.out.Logs) >= api.MaxLogs {
			panic(api.ErrValue)
		}
		r.out.Logs = append(r.out.Logs, v.S)
	case api.PsDeny:
		r.out.End, r.out.Text = api.EnDenied, v.S
	case api.PsReply:
		r.out.End, r.out.Text = api.EnReply, v.S
	}
}

// put gives the first header with a name another value, and takes all later ones away.
func put(l []api.Header, h api.Header) []api.Header {
	i := slices.IndexFunc(l, func(o api.Header) bool { return o.Name == h.Name })
	if i < 0 {
		return append(l, h)
	}
	l[i] = h
	rest := slices.DeleteFunc(l[i+1:], func(o api.Header) bool { return o.Name == h.Name })
	return l[:i+1+len(rest)]
}

func (r *runner) expr(x api.TExpr) api.Value {
	args := make([]api.Value, len(x.Args))
	for i, a := range x.Args {
		args[i] = r.expr(a)
	}
	r.spend()
	switch x.Op {
	case api.PxNumber:
		return number(x.N)
	case api.PxText:
		return text(x.S)
	case api.PxName:
		return r.slots[x.Slot]
	case api.PxTrue, api.PxFalse:
		return truth(x.Op == api.PxTrue)
	case api.PxHeader:
		for _, h := range r.out.Edge.Headers {
			if h.Name == x.S {
				return text(h.Value)
			}
		}
		return text("")
	case api.PxStatus:
		return number(r.out.Edge.Status)
	case api.PxNeg:
		return number(-args[0].N)
	case api.PxNot:
		return truth(args[0].N == 0)
	case api.PxIn:
		return truth(slices.Contains(args[1:], args[0]))
	}
	return binary(x.Op, args[0], args[1])
}

// binary returns the value of an operator with two arguments.
func binary(op int, a, b api.Value) api.Value {
	switch op {
	case api.PxAdd:
		if a.Type == api.TyText {
			return text(a.S + b.S)
		}
		return number(a.N + b.N)
	case api.PxSub:
		return number(a.N - b.N)
	case api.PxMul:
		return product(a.N, b.N)
	case api.PxDiv, api.PxMod:
		if b.N == 0 {
			panic(api.ErrZero)
		}
		quotient, rest := divide(a.N, b.N)
		if op == api.PxDiv {
			return number(quotient)
		}
		return number(rest)
	case api.PxEq:
		return truth(a == b)
	case api.PxNe:
		return truth(a != b)
	case api.PxAnd:
		return truth(a.N == 1 && b.N == 1)
	case api.PxOr:
		return truth(a.N == 1 || b.N == 1)
	}
	order := compare(a, b)
	return truth(op == api.PxLess && order < 0 || op == api.PxMore && order > 0 || op == api.PxAtMost && order <= 0 || op == api.PxAtLeast && order >= 0)
}

// compare compares two values of one type.
func compare(a, b api.Value) int {
	if a.Type == api.TyText {
		return strings.Compare(a.S, b.S)
	}
	return a.N - b.N
}

// divide returns the quotient, rounded down, and the remainder, which has the sign of the divisor.
func divide(a, b int) (quotient, rest int) {
	quotient, rest = a/b, a%b
	if rest != 0 && (rest < 0) != (b < 0) {
		quotient--
		rest += b
	}
	return quotient, rest
}

// product multiplies numbers that may be too great for an int together.
func product(a, b int) api.Value {
	if a != 0 && max(b, -b) > api.MaxNumber/max(a, -a) {
		panic(api.ErrValue)
	}
	return number(a * b)
}

func number(n int) api.Value {
	if n < -api.MaxNumber || n > api.MaxNumber {
		panic(api.ErrValue)
	}
	return api.Value{Type: api.TyNumber, N: n}
}

func text(s string) api.Value {
	if len(s) > api.MaxValue {
		panic(api.ErrValue)
	}
	return api.Value{Type: api.TyText, S: s}
}

func truth(b bool) api.Value {
	v := api.Value{Type: api.TyBool}
	if b {
		v.N = 1
	}
	return v
}
