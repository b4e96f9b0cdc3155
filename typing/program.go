package typing

import (
	"strconv"

	"weirgate/api"
)

// maxLevel is the greatest level of statements and expressions.
const maxLevel = 200

// variable is what is known of a variable.
type variable struct{ slot, kind int }

// typer types a program.
type typer struct {
	types map[int]typing
	known map[string]variable
}

// typing returns the type of the value of an operator with arguments of some types; 0 if it cannot have these.
type typing func(args []int) int

func typedProgram(p api.PProgram) api.Program {
	if hasTwins(p.Effects) {
		fail(p.At, api.ErrTwice)
	}
	t := typer{types: typings(), known: map[string]variable{}}
	return api.Program{Name: p.Name, Effects: sorted(p.Effects), Code: t.block(p.Code, 1)}
}

// typings returns how the operators with arguments are typed.
func typings() map[int]typing {
	all := func(want int, gives int) typing {
		return func(args []int) int {
			for _, a := range args {
				if a != want {
					return 0
				}
			}
			return gives
		}
	}
	same := func(gives int) typing {
		return func(args []int) int { return all(args[0], gives)(args) }
	}
	ordered := func(args []int) int {
		if args[0] == api.TyBool {
			return 0
		}
		return same(api.TyBool)(args)
	}
	number := all(api.TyNumber, api.TyNumber)
	boolean := all(api.TyBool, api.TyBool)
	return map[int]typing{
		api.PxNeg: number, api.PxNot: boolean,
		api.PxAdd: func(args []int) int { return max(number(args), all(api.TyText, api.TyText)(args)) },
		api.PxSub: number, api.PxMul: number, api.PxDiv: number, api.PxMod: number,
		api.PxLess: ordered, api.PxMore: ordered, api.PxAtMost: ordered, api.PxAtLeast: ordered,
		api.PxEq: same(api.TyBool), api.PxNe: same(api.TyBool),
		api.PxAnd: boolean, api.PxOr: boolean, api.PxIn: same(api.TyBool),
	}
}

// block types the statements of a block. What they make known is forgotten at its end.
func (t *typer) block(l []api.PStmt, level int) []api.TStmt {
	var typed []api.TStmt
	var names []string
	for _, s := range l {
		typed = append(typed, t.stmt(s, level))
		if s.Kind == api.PsLet {
			names = append(names, s.Name)
		}
	}
	for _, name := range names {
		delete(t.known, name)
	}
	return typed
}

func (t *typer) stmt(s api.PStmt, level int) api.TStmt {
	if level > maxLevel {
		fail(s.At, api.ErrLimit)
	}
	typed := api.TStmt{Kind: s.Kind}
	if s.Kind == api.PsRepeat {
		typed.N = turns(s.X)
	} else {
		typed.X = t.expr(s.X, level+1)
	}
	want := typed.X.Type
	switch s.Kind {
	case api.PsLet:
		typed.Slot = t.let(s, typed.X.Type)
	case api.PsSet:
		v, ok := t.known[s.Name]
		if !ok {
			fail(s.At, api.ErrName)
		}
		typed.Slot, want = v.slot, v.kind
	case api.PsHeader:
		typed.Name, want = s.Name, api.TyText
	case api.PsLog, api.PsDeny, api.PsReply:
		want = api.TyText
	case api.PsStatus:
		want = api.TyNumber
	case api.PsIf:
		want = api.TyBool
	}
	if typed.X.Type != want {
		fail(s.X.At, api.ErrKind)
	}
	typed.Body = t.block(s.Body, level+1)
	typed.Else = t.block(s.Else, level+1)
	return typed
}

// let makes a variable known, and returns its slot.
func (t *typer) let(s api.PStmt, kind int) int {
	if _, ok := t.known[s.Name]; ok {
		fail(s.At, api.ErrTwice)
	}
	slot := len(t.known)
	if slot >= api.MaxSlots {
		fail(s.At, api.ErrLimit)
	}
	t.known[s.Name] = variable{slot, kind}
	return slot
}

// turns returns how often a body is repeated.
func turns(x api.PExpr) int {
	n, e := strconv.Atoi(x.S)
	if e != nil || n > api.MaxRepeat {
		fail(x.At, api.ErrLimit)
	}
	return n
}

func (t *typer) expr(x api.PExpr, level int) api.TExpr {
	if level > maxLevel {
		fail(x.At, api.ErrLimit)
	}
	typed := api.TExpr{Op: x.Op}
	switch x.Op {
	case api.PxNumber:
		typed.Type = api.TyNumber
		typed.N, _ = strconv.Atoi(x.S)
	case api.PxText, api.PxHeader:
		typed.Type, typed.S = api.TyText, x.S
	case api.PxName:
		v, ok := t.known[x.S]
		if !ok {
			fail(x.At, api.ErrName)
		}
		typed.Type, typed.Slot = v.kind, v.slot
	case api.PxTrue, api.PxFalse:
		typed.Type = api.TyBool
	case api.PxStatus:
		typed.Type = api.TyNumber
	default:
		args := make([]int, len(x.Args))
		for i, a := range x.Args {
			y := t.expr(a, level+1)
			typed.Args = append(typed.Args, y)
			args[i] = y.Type
		}
		if typed.Type = t.types[x.Op](args); typed.Type == 0 {
			fail(x.At, api.ErrKind)
		}
	}
	return typed
}
