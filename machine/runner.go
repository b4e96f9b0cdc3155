package machine

import (
	"slices"

	"weirgate/api"
)

// lastStatus is the only thing that is left of what was done when a run has ended with an error.
const lastStatus = 100

// runner does what instructions say. An error leaves an instruction by a panic.
type runner struct {
	api.Cpu
	code  []api.Instr
	forms map[int]func(x api.Instr)
}

func newRunner(m api.Module, c api.Cpu) *runner {
	r := &runner{Cpu: copied(c), code: m.Code}
	r.forms = map[int]func(x api.Instr){
		api.PxNumber: r.number, api.PxText: r.text, api.PxName: r.name, api.PxTrue: r.constant, api.PxFalse: r.constant,
		api.PxHeader: r.header, api.PxStatus: r.status, api.PxNeg: r.unary, api.PxNot: r.unary, api.PxIn: r.among,
		api.CdStep: r.nothing, api.CdStore: r.store, api.CdPutHeader: r.putHeader, api.CdPutStatus: r.putStatus,
		api.CdLog: r.log, api.CdDeny: r.end, api.CdReply: r.end, api.CdJump: r.jump, api.CdUnless: r.unless,
		api.CdLoop: r.loop, api.CdTurn: r.turn, api.CdForget: r.forget,
	}
	for op := api.PxAdd; op <= api.PxOr; op++ {
		r.forms[op] = r.binary
	}
	return r
}

// cost returns what the next instruction costs.
func (r *runner) cost() int {
	if r.At >= len(r.code) {
		return 0
	}
	switch x := r.code[r.At]; {
	case x.Op <= api.PxIn, x.Op == api.CdStep:
		return 1
	case x.Op == api.CdTurn && len(r.Loops) > 0 && r.Loops[len(r.Loops)-1] > 0:
		return 1
	}
	return 0
}

// step does the next instruction, if there is one, and notices whether the run is over.
func (r *runner) step() {
	defer func() {
		if x := recover(); x != nil {
			r.E = api.ErrValue
			if e, ok := x.(api.Errno); ok {
				r.E = e
			}
			r.Out = api.Outcome{Edge: api.Edge{Status: lastStatus}}
			r.finish()
		}
	}()
	if r.At < len(r.code) {
		x := r.code[r.At]
		r.Spent += r.cost()
		r.At++
		r.forms[x.Op](x)
	}
	if r.Out.End != api.EnRun || r.At >= len(r.code) {
		r.finish()
	}
}

// finish makes the run over.
func (r *runner) finish() {
	r.Over, r.At = true, 0
	r.Stack, r.Slots, r.Loops = nil, nil, nil
}

func (r *runner) push(v api.Value) { r.Stack = append(r.Stack, v) }

func (r *runner) pop() api.Value {
	last := len(r.Stack) - 1
	v := r.Stack[last]
	r.Stack = r.Stack[:last]
	return v
}

func (r *runner) number(x api.Instr)   { r.push(number(x.A)) }
func (r *runner) text(x api.Instr)     { r.push(text(x.S)) }
func (r *runner) name(x api.Instr)     { r.push(r.Slots[x.A]) }
func (r *runner) constant(x api.Instr) { r.push(truth(x.Op == api.PxTrue)) }
func (r *runner) status(api.Instr)     { r.push(number(r.Out.Edge.Status)) }

func (r *runner) header(x api.Instr) {
	value := ""
	if i := placeOf(r.Out.Edge.Headers, x.S); i >= 0 {
		value = r.Out.Edge.Headers[i].Value
	}
	r.push(text(value))
}

func (r *runner) unary(x api.Instr) {
	v := r.pop()
	if x.Op == api.PxNeg {
		r.push(number(-v.N))
	} else {
		r.push(truth(v.N == 0))
	}
}

func (r *runner) binary(x api.Instr) {
	b := r.pop()
	a := r.pop()
	r.push(binary(x.Op, a, b))
}

func (r *runner) among(x api.Instr) {
	first := len(r.Stack) - x.A
	args := r.Stack[first:]
	r.Stack = r.Stack[:first]
	r.push(truth(slices.Contains(args[1:], args[0])))
}

func (r *runner) nothing(api.Instr) {}

func (r *runner) store(x api.Instr) {
	if x.A == len(r.Slots) {
		r.Slots = append(r.Slots, api.Value{})
	}
	r.Slots[x.A] = r.pop()
}

func (r *runner) putHeader(x api.Instr) {
	v := r.pop().S
	i := placeOf(r.Out.Edge.Headers, x.S)
	if i < 0 {
		r.Out.Edge.Headers = append(r.Out.Edge.Headers, api.Header{Name: x.S, Value: v})
		return
	}
	l := r.Out.Edge.Headers
	l[i].Value = v
	rest := slices.DeleteFunc(l[i+1:], func(h api.Header) bool { return h.Name == x.S })
	r.Out.Edge.Headers = l[:i+1+len(rest)]
}

func (r *runner) putStatus(api.Instr) {
	n := r.pop().N
	if n < 100 || n > 599 {
		panic(api.ErrValue)
	}
	r.Out.Edge.Status = n
}

func (r *runner) log(api.Instr) {
	if len(r.Out.Logs) >= api.MaxLogs {
		panic(api.ErrValue)
	}
	r.Out.Logs = append(r.Out.Logs, r.pop().S)
}

func (r *runner) end(x api.Instr) {
	r.Out.Text = r.pop().S
	r.Out.End = api.EnDenied
	if x.Op == api.CdReply {
		r.Out.End = api.EnReply
	}
}

func (r *runner) jump(x api.Instr) { r.At = x.A }

func (r *runner) unless(x api.Instr) {
	if r.pop().N == 0 {
		r.At = x.A
	}
}

func (r *runner) loop(x api.Instr) { r.Loops = append(r.Loops, x.A) }

func (r *runner) turn(x api.Instr) {
	last := len(r.Loops) - 1
	if r.Loops[last] > 0 {
		r.Loops[last]--
		return
	}
	r.Loops = r.Loops[:last]
	r.At = x.A
}

func (r *runner) forget(x api.Instr) { r.Slots = r.Slots[:x.A] }

func placeOf(l []api.Header, name string) int {
	return slices.IndexFunc(l, func(h api.Header) bool { return h.Name == name })
}
