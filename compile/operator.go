package compile

import "weirgate/api"

// operator takes the arguments of an operator from the stack, and returns the type of its value; 0 if something is wrong.
func (c *checker) operator(x api.Instr, t *types) int {
	text := x.Op == api.PxText || x.Op == api.PxHeader
	number := x.Op == api.PxNumber || x.Op == api.PxName || x.Op == api.PxIn
	if !text && x.S != "" || !number && x.A != 0 {
		return 0
	}
	switch x.Op {
	case api.PxNumber:
		if x.A < 0 || x.A > maxLiteral {
			return 0
		}
		return api.TyNumber
	case api.PxText, api.PxHeader:
		if len(x.S) > api.MaxQuoted {
			return 0
		}
		return api.TyText
	case api.PxName:
		return c.slot(t, x.A)
	case api.PxTrue, api.PxFalse:
		return api.TyBool
	case api.PxStatus:
		return api.TyNumber
	case api.PxNeg, api.PxNot:
		return valueOf(x.Op, c.arguments(t, 1))
	case api.PxIn:
		if x.A < 2 {
			return 0
		}
		return valueOf(x.Op, c.arguments(t, x.A))
	}
	return valueOf(x.Op, c.arguments(t, 2))
}

// arguments takes values from the stack, and returns their type, if all of them have the same; otherwise 0.
func (c *checker) arguments(t *types, n int) int {
	kind, _ := c.lists.pop(t.stack)
	for range n {
		other, below := c.lists.pop(t.stack)
		if other != kind || other == 0 {
			return 0
		}
		t.stack = below
	}
	return kind
}

// valueOf returns the type of the value of an operator whose arguments have a type in common; 0 if it cannot have these.
func valueOf(op, kind int) int {
	isNumber, isBool := kind == api.TyNumber, kind == api.TyBool
	fits, value := false, api.TyBool
	switch op {
	case api.PxNeg, api.PxSub, api.PxMul, api.PxDiv, api.PxMod:
		fits, value = isNumber, api.TyNumber
	case api.PxAdd:
		fits, value = !isBool, kind
	case api.PxNot, api.PxAnd, api.PxOr:
		fits = isBool
	case api.PxLess, api.PxMore, api.PxAtMost, api.PxAtLeast:
		fits = !isBool
	case api.PxEq, api.PxNe, api.PxIn:
		fits = true
	}
	if !fits || kind == 0 {
		return 0
	}
	return value
}
