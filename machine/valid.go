package machine

import (
	"slices"

	"weirgate/api"
)

// Valid reports whether a machine is valid for a module.
func Valid(m api.Module, c api.Cpu) bool {
	if c.Spent < 0 || c.Spent > api.MaxSpent || !isOutcome(c.Out) {
		return false
	}
	if c.Over {
		nothing := len(c.Stack)+len(c.Slots)+len(c.Loops) == 0 && c.At == 0
		return nothing && (c.E == api.OK || (c.E == api.ErrZero || c.E == api.ErrValue) && isLost(c.Out))
	}
	place := c.At >= 0 && c.At < len(m.Code) || c.At == 0
	if !place || c.E != api.OK || c.Out.End != api.EnRun || !areTurns(c.Loops) {
		return false
	}
	t := typesBefore(m.Code, c.At)
	return fit(c.Stack, t.stack) && fit(c.Slots, t.slots) && len(c.Loops) == t.loops
}

func isOutcome(o api.Outcome) bool {
	tooLong := func(s string) bool { return len(s) > api.MaxValue }
	wrong := func(h api.Header) bool { return tooLong(h.Name) || tooLong(h.Value) }
	return o.Edge.Status >= 100 && o.Edge.Status <= 599 && !slices.ContainsFunc(o.Edge.Headers, wrong) &&
		len(o.Logs) <= api.MaxLogs && !slices.ContainsFunc(o.Logs, tooLong) &&
		o.End >= api.EnRun && o.End <= api.EnReply && !tooLong(o.Text) && (o.End != api.EnRun || o.Text == "")
}

// isLost reports whether an outcome is what is left after an error.
func isLost(o api.Outcome) bool {
	return o.End == api.EnRun && len(o.Edge.Headers)+len(o.Logs) == 0 && o.Edge.Status == lastStatus
}

func areTurns(l []int) bool {
	return !slices.ContainsFunc(l, func(n int) bool { return n < 0 || n > api.MaxRepeat })
}

// fit reports whether values are right, and have the types of a list.
func fit(l []api.Value, kinds *list) bool {
	if len(l) != kinds.size() {
		return false
	}
	for i := len(l) - 1; i >= 0; i-- {
		if l[i].Type != kinds.kind || !isValue(l[i]) {
			return false
		}
		kinds = kinds.below
	}
	return true
}

func isValue(v api.Value) bool {
	switch v.Type {
	case api.TyNumber:
		return v.S == "" && isNumber(v.N)
	case api.TyText:
		return v.N == 0 && len(v.S) <= api.MaxValue
	}
	return v.S == "" && (v.N == 0 || v.N == 1)
}

// list is a list of types, the last one first; nil is the empty list.
type list struct {
	below  *list
	kind   int
	length int
}

func (l *list) size() int {
	if l == nil {
		return 0
	}
	return l.length
}

func (l *list) push(kind int) *list { return &list{l, kind, l.size() + 1} }

// cut returns the first elements of a list that has as many.
func (l *list) cut(length int) *list {
	for l.size() > length {
		l = l.below
	}
	return l
}

// types is the types before an instruction, and how many loops are open.
type types struct {
	stack, slots *list
	loops        int
}

// typesBefore returns the types before an instruction of code without an error, in which every instruction is found from one before it.
func typesBefore(code []api.Instr, place int) types {
	before := map[int]types{0: {}}
	for at, x := range code[:min(place, len(code))] {
		t := before[at]
		leads := func(to int, t types) {
			if _, found := before[to]; !found {
				before[to] = t
			}
		}
		switch x.Op {
		case api.CdJump:
			leads(x.A, t)
			continue
		case api.CdUnless:
			t.stack = t.stack.below
			leads(x.A, t)
		case api.CdTurn:
			out := t
			out.loops--
			leads(x.A, out)
		case api.CdLoop:
			t.loops++
		default:
			t = t.after(x)
		}
		leads(at+1, t)
	}
	return before[place]
}

// after returns the types after an instruction that leads to the next place alone.
func (t types) after(x api.Instr) types {
	switch x.Op {
	case api.CdStep:
		return t
	case api.CdForget:
		t.slots = t.slots.cut(x.A)
		return t
	case api.CdStore:
		if x.A == t.slots.size() {
			t.slots = t.slots.push(t.stack.kind)
		}
		t.stack = t.stack.below
		return t
	case api.CdPutHeader, api.CdPutStatus, api.CdLog, api.CdDeny, api.CdReply:
		t.stack = t.stack.below
		return t
	}
	kind := t.valueOf(x)
	t.stack = t.stack.cut(t.stack.size() - arguments(x)).push(kind)
	return t
}

// arguments returns how many arguments an operator takes.
func arguments(x api.Instr) int {
	switch x.Op {
	case api.PxNumber, api.PxText, api.PxName, api.PxTrue, api.PxFalse, api.PxHeader, api.PxStatus:
		return 0
	case api.PxNeg, api.PxNot:
		return 1
	case api.PxIn:
		return x.A
	}
	return 2
}

// valueOf returns the type of the value of an operator.
func (t types) valueOf(x api.Instr) int {
	switch x.Op {
	case api.PxText, api.PxHeader:
		return api.TyText
	case api.PxName:
		return t.slots.cut(x.A + 1).kind
	case api.PxAdd:
		return t.stack.kind
	case api.PxNumber, api.PxStatus, api.PxNeg, api.PxSub, api.PxMul, api.PxDiv, api.PxMod:
		return api.TyNumber
	}
	return api.TyBool
}
