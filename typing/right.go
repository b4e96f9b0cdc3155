package typing

import "weirgate/api"

// maxLiteral is the greatest number of a source: that of 18 digits.
const maxLiteral = 1000000000000000000 - 1

// Right reports whether a program is right.
func Right(p api.Program) bool {
	last := 0
	for _, e := range p.Effects {
		if e <= last || e > api.EfReply {
			return false
		}
		last = e
	}
	j := judge{types: typings()}
	return j.block(p.Code, 1)
}

// judge goes through a typed program as the typer does.
type judge struct {
	types map[int]typing
	slots []int // the types of the variables that are known
}

func (j *judge) block(l []api.TStmt, level int) bool {
	known := len(j.slots)
	defer func() { j.slots = j.slots[:known] }()
	for _, s := range l {
		if !j.stmt(s, level) {
			return false
		}
	}
	return true
}

func (j *judge) stmt(s api.TStmt, level int) bool {
	if level > maxLevel {
		return false
	}
	if s.Kind == api.PsRepeat {
		zero := s.X.Op == 0 && s.X.Type == 0 && s.X.N == 0 && s.X.Slot == 0 && s.X.S == "" && len(s.X.Args) == 0
		return zero && s.N >= 0 && s.N <= api.MaxRepeat && s.Slot == 0 && s.Name == "" && len(s.Else) == 0 && j.block(s.Body, level+1)
	}
	if s.N != 0 || !j.expr(s.X, level+1) {
		return false
	}
	if s.Kind == api.PsIf {
		return s.X.Type == api.TyBool && s.Slot == 0 && s.Name == "" && j.block(s.Body, level+1) && j.block(s.Else, level+1)
	}
	return len(s.Body) == 0 && len(s.Else) == 0 && j.simple(s)
}

// simple judges a statement without blocks, whose expression is right.
func (j *judge) simple(s api.TStmt) bool {
	if s.Kind != api.PsHeader && s.Name != "" || s.Kind != api.PsLet && s.Kind != api.PsSet && s.Slot != 0 {
		return false
	}
	switch s.Kind {
	case api.PsLet:
		if s.Slot != len(j.slots) || s.Slot >= api.MaxSlots {
			return false
		}
		j.slots = append(j.slots, s.X.Type)
		return true
	case api.PsSet:
		return j.isKnown(s.Slot) && s.X.Type == j.slots[s.Slot]
	case api.PsHeader:
		return s.X.Type == api.TyText && len(s.Name) <= api.MaxQuoted
	case api.PsStatus:
		return s.X.Type == api.TyNumber
	case api.PsLog, api.PsDeny, api.PsReply:
		return s.X.Type == api.TyText
	}
	return false
}

func (j *judge) isKnown(slot int) bool { return slot >= 0 && slot < len(j.slots) }

func (j *judge) expr(x api.TExpr, level int) bool {
	if level > maxLevel || x.Op != api.PxNumber && x.N != 0 || x.Op != api.PxName && x.Slot != 0 ||
		x.Op != api.PxText && x.Op != api.PxHeader && x.S != "" {
		return false
	}
	if rule, ok := j.types[x.Op]; ok {
		return j.operator(x, level, rule)
	}
	if len(x.Args) > 0 {
		return false
	}
	switch x.Op {
	case api.PxNumber:
		return x.Type == api.TyNumber && x.N >= 0 && x.N <= maxLiteral
	case api.PxText, api.PxHeader:
		return x.Type == api.TyText && len(x.S) <= api.MaxQuoted
	case api.PxName:
		return j.isKnown(x.Slot) && x.Type == j.slots[x.Slot]
	case api.PxTrue, api.PxFalse:
		return x.Type == api.TyBool
	case api.PxStatus:
		return x.Type == api.TyNumber
	}
	return false
}

// operator judges an operator with arguments.
func (j *judge) operator(x api.TExpr, level int, rule typing) bool {
	least, most := 2, 2
	switch x.Op {
	case api.PxNeg, api.PxNot:
		least, most = 1, 1
	case api.PxIn:
		most = len(x.Args)
	}
	if len(x.Args) < least || len(x.Args) > most {
		return false
	}
	args := make([]int, len(x.Args))
	for i, a := range x.Args {
		if !j.expr(a, level+1) {
			return false
		}
		args[i] = a.Type
	}
	return x.Type != 0 && x.Type == rule(args)
}
