package machine

import (
	"cmp"

	"weirgate/api"
)

// number returns a value; it panics if the number is too great.
func number(n int) api.Value {
	if !isNumber(n) {
		panic(api.ErrValue)
	}
	return api.Value{Type: api.TyNumber, N: n}
}

// text returns a value; it panics if the text is too long.
func text(s string) api.Value {
	if len(s) > api.MaxValue {
		panic(api.ErrValue)
	}
	return api.Value{Type: api.TyText, S: s}
}

func truth(b bool) api.Value {
	if b {
		return api.Value{Type: api.TyBool, N: 1}
	}
	return api.Value{Type: api.TyBool}
}

func isNumber(n int) bool { return n >= -api.MaxNumber && n <= api.MaxNumber }

// binary returns the value of an operator with two arguments of types that it can have.
func binary(op int, a, b api.Value) api.Value {
	order := cmp.Or(cmp.Compare(a.N, b.N), cmp.Compare(a.S, b.S)) // of a type, only one of both fields counts
	switch op {
	case api.PxLess:
		return truth(order < 0)
	case api.PxMore:
		return truth(order > 0)
	case api.PxAtMost:
		return truth(order <= 0)
	case api.PxAtLeast:
		return truth(order >= 0)
	case api.PxEq:
		return truth(order == 0)
	case api.PxNe:
		return truth(order != 0)
	case api.PxAnd:
		return truth(a.N+b.N == 2)
	case api.PxOr:
		return truth(a.N+b.N > 0)
	}
	if a.Type == api.TyText {
		return text(a.S + b.S)
	}
	return number(computed(op, a.N, b.N))
}

// computed returns the result of two numbers; if that is too great, it is one that is no number, or a panic.
func computed(op, a, b int) int {
	switch op {
	case api.PxAdd:
		return a + b
	case api.PxSub:
		return a - b
	case api.PxMul:
		if b != 0 && max(a, -a) > api.MaxNumber/max(b, -b) {
			panic(api.ErrValue)
		}
		return a * b
	}
	if b == 0 {
		panic(api.ErrZero)
	}
	rest := (a%b + b) % b // with the sign of the divisor
	if op == api.PxMod {
		return rest
	}
	return (a - rest) / b
}
