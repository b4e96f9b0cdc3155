package machine

import (
	"slices"

	"weirgate/api"
	"weirgate/wire"
)

// Save returns the text of a machine.
func Save(c api.Cpu) []byte {
	over := 0
	if c.Over {
		over = 1
	}
	var numbers []int
	var texts, headers []string
	for _, v := range slices.Concat(c.Stack, c.Slots) {
		numbers = append(numbers, v.Type, v.N)
		texts = append(texts, v.S)
	}
	for _, h := range c.Out.Edge.Headers {
		headers = append(headers, h.Name, h.Value)
	}
	front := []int{c.At, c.Spent, over, int(c.E), c.Out.Edge.Status, c.Out.End, len(c.Stack), len(c.Slots)}
	return slices.Concat(wire.Ints(front), wire.Ints(c.Loops), wire.Ints(numbers), wire.Strings(texts),
		wire.Strings(headers), wire.Strings(c.Out.Logs), wire.Bytes(c.Out.Text))
}

// Load returns the machine of a text.
func Load(m api.Module, b []byte) (c api.Cpu, e api.Errno) {
	defer func() {
		if recover() != nil {
			c, e = api.Cpu{}, api.ErrEncoding
		}
	}()
	front, b := next(b, wire.GetInts)
	loops, b := next(b, wire.GetInts)
	numbers, b := next(b, wire.GetInts)
	texts, b := next(b, wire.GetStrings)
	headers, b := next(b, wire.GetStrings)
	logs, b := next(b, wire.GetStrings)
	end, b := next(b, wire.GetBytes)
	if len(b) > 0 || len(front) != 8 || len(numbers) != 2*len(texts) || len(headers)%2 != 0 {
		panic(api.ErrEncoding)
	}
	var values []api.Value
	for i, s := range texts {
		values = append(values, api.Value{Type: numbers[2*i], N: numbers[2*i+1], S: s})
	}
	stack := front[6]
	if front[2] < 0 || front[2] > 1 || stack < 0 || stack > len(values) || front[7] != len(values)-stack {
		panic(api.ErrEncoding)
	}
	out := api.Outcome{Edge: api.Edge{Status: front[4]}, Logs: logs, End: front[5], Text: end}
	for i := 0; i < len(headers); i += 2 {
		out.Edge.Headers = append(out.Edge.Headers, api.Header{Name: headers[i], Value: headers[i+1]})
	}
	c = copied(api.Cpu{
		At: front[0], Spent: front[1], Over: front[2] == 1, E: api.Errno(front[3]),
		Stack: values[:stack], Slots: values[stack:], Loops: loops, Out: out,
	})
	if !Valid(m, c) {
		panic(api.ErrEncoding)
	}
	return c, api.OK
}

// next decodes something at the beginning of bytes, and returns it with what follows it; it panics if there is nothing.
func next[T any](b []byte, get func(b []byte) (T, int, api.Errno)) (T, []byte) {
	x, used, e := get(b)
	if e != api.OK {
		panic(e)
	}
	return x, b[used:]
}
