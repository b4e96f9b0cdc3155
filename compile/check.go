package compile

import "weirgate/api"

// maxLiteral is the greatest number of an instruction.
const maxLiteral = 1000000000000000000 - 1

// Check checks code.
func Check(m api.Module) api.Errno {
	if !areEffects(m.Effects) || len(m.Name) > api.MaxQuoted || len(m.Code) > api.MaxInstrs {
		return api.ErrCode
	}
	c := checker{code: m.Code, before: map[int]types{0: {}}}
	for at := range m.Code {
		if !c.instr(at) {
			return api.ErrCode
		}
	}
	if end, reached := c.before[len(m.Code)]; reached && (end.stack != nothing || end.loops != nothing) {
		return api.ErrCode
	}
	return api.OK
}

func areEffects(l []int) bool {
	last := 0
	for _, e := range l {
		if e <= last || e > api.EfReply {
			return false
		}
		last = e
	}
	return true
}

// types is the types before an instruction: lists of a table.
type types struct{ stack, slots, loops int }

// checker goes through code; what was found before instructions is in a map by their places.
type checker struct {
	code   []api.Instr
	lists  table
	before map[int]types
}

// instr reports whether an instruction is right, and finds the types to which it leads.
func (c *checker) instr(at int) bool {
	t, found := c.before[at]
	if !found {
		return false
	}
	// leads reports whether types fit to what was found at a place, if anything was.
	leads := func(to int, t types) bool {
		old, found := c.before[to]
		c.before[to] = t
		return !found || old == t
	}
	x := c.code[at]
	switch x.Op {
	case api.CdJump:
		return x.S == "" && c.isTarget(at, x) && leads(x.A, t)
	case api.CdUnless:
		kind, rest := c.lists.pop(t.stack)
		t.stack = rest
		return x.S == "" && kind == api.TyBool && c.isTarget(at, x) && leads(x.A, t) && leads(at+1, t)
	case api.CdLoop:
		t.loops = c.lists.push(t.loops, at)
		return x.S == "" && x.A >= 0 && x.A <= api.MaxRepeat && leads(at+1, t)
	case api.CdTurn:
		out := t
		_, out.loops = c.lists.pop(t.loops)
		return x.S == "" && t.loops != nothing && c.isTarget(at, x) && leads(x.A, out) && leads(at+1, t)
	case api.CdForget:
		known := c.lists.length(t.slots)
		if x.S != "" || x.A < 0 || x.A > known {
			return false
		}
		t.slots = c.lists.cut(t.slots, x.A)
		return leads(at+1, t)
	}
	return c.straight(x, &t) && leads(at+1, t)
}

// isTarget reports whether the place at which an instruction goes on is right: going back, only a jump to a turn is.
func (c *checker) isTarget(at int, x api.Instr) bool {
	if x.A < 0 || x.A > len(c.code) {
		return false
	}
	return x.A > at || x.Op == api.CdJump && c.code[x.A].Op == api.CdTurn
}

// straight reports whether an instruction that leads to the next place alone is right, and changes the types to those after it.
func (c *checker) straight(x api.Instr, t *types) bool {
	switch x.Op {
	case api.CdStep:
		return x.A == 0 && x.S == ""
	case api.CdStore:
		return x.S == "" && c.store(x.A, t)
	case api.CdPutHeader:
		return x.A == 0 && len(x.S) <= api.MaxQuoted && c.take(t, api.TyText)
	case api.CdLog, api.CdDeny, api.CdReply:
		return x.A == 0 && x.S == "" && c.take(t, api.TyText)
	case api.CdPutStatus:
		return x.A == 0 && x.S == "" && c.take(t, api.TyNumber)
	}
	kind := c.operator(x, t)
	t.stack = c.lists.push(t.stack, kind)
	return kind != 0
}

// take takes a value of a type from the stack.
func (c *checker) take(t *types, kind int) bool {
	top, rest := c.lists.pop(t.stack)
	t.stack = rest
	return top == kind
}

// store takes a value from the stack into a slot.
func (c *checker) store(slot int, t *types) bool {
	kind, rest := c.lists.pop(t.stack)
	t.stack = rest
	known := c.lists.length(t.slots)
	if slot == known && slot < api.MaxSlots {
		t.slots = c.lists.push(t.slots, kind)
		return kind != 0
	}
	return kind != 0 && c.slot(t, slot) == kind
}

// slot returns the type of a slot; 0 if it is not known.
func (c *checker) slot(t *types, slot int) int {
	if slot < 0 || slot >= c.lists.length(t.slots) {
		return 0
	}
	kind, _ := c.lists.pop(c.lists.cut(t.slots, slot+1))
	return kind
}
