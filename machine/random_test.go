package machine_test

import (
	"fmt"
	"math/rand"
	"strings"
	"testing"

	"weirgate/api"
	"weirgate/parser"
	"weirgate/typing"
)

// maker makes sources of random programs.
type maker struct {
	r    *rand.Rand
	vars []string // their types are told by their first letters: n, t, b
	last int
}

func (m *maker) pick(l ...string) string { return l[m.r.Intn(len(l))] }

// known returns a variable of a type, or something else.
func (m *maker) known(letter, other string) string {
	for _, i := range m.r.Perm(len(m.vars)) {
		if m.vars[i][:1] == letter {
			return m.vars[i]
		}
	}
	return other
}

func (m *maker) expr(letter string, depth int) string {
	leaf := depth <= 0 || m.r.Intn(4) == 0
	switch letter {
	case "n":
		if leaf {
			return m.pick("0", "1", "2", "7", "status", m.known("n", "3"), "999999999999999999")
		}
		return m.pick("-", m.expr("n", depth-1)+m.pick("+", "-", "*", "/", "%")) + "(" + m.expr("n", depth-1) + ")"
	case "t":
		if leaf {
			return m.pick(`"a"`, `"b"`, `""`, `header "a"`, `header "b"`, m.known("t", `"c"`))
		}
		return "(" + m.expr("t", depth-1) + " + " + m.expr("t", depth-1) + ")"
	}
	if leaf {
		return m.pick("true", "false", m.known("b", "true"))
	}
	x := m.pick("n", "t")
	switch m.r.Intn(4) {
	case 0:
		return "(" + m.expr(x, depth-1) + ") " + m.pick("<", ">", "<=", ">=", "==", "!=") + " (" + m.expr(x, depth-1) + ")"
	case 1:
		return "not (" + m.expr("b", depth-1) + ")"
	case 2:
		return "(" + m.expr(x, depth-1) + ") in (" + m.expr(x, depth-1) + ", " + m.expr(x, depth-1) + ")"
	}
	return "(" + m.expr("b", depth-1) + ") " + m.pick("and", "or", "==") + " (" + m.expr("b", depth-1) + ")"
}

func (m *maker) block(depth int) string {
	known := len(m.vars)
	var b strings.Builder
	b.WriteString("{ ")
	for range m.r.Intn(4) {
		b.WriteString(m.stmt(depth))
	}
	m.vars = m.vars[:known]
	return b.String() + "} "
}

func (m *maker) stmt(depth int) string {
	switch m.r.Intn(11) {
	case 0, 1:
		letter := m.pick("n", "t", "b")
		x := m.expr(letter, 2)
		m.last++
		name := fmt.Sprint(letter, m.last)
		m.vars = append(m.vars, name)
		return "let " + name + " = " + x + "; "
	case 2:
		if len(m.vars) > 0 {
			name := m.vars[m.r.Intn(len(m.vars))]
			return "set " + name + " = " + m.expr(name[:1], 2) + "; "
		}
	case 3:
		return `set header "` + m.pick("a", "b", "c") + `" = ` + m.expr("t", 2) + "; "
	case 4:
		return "set status = " + m.pick("200", "404 + 1", "status", m.expr("n", 1)) + "; "
	case 5:
		return m.pick("deny ", "reply ") + m.expr("t", 1) + "; "
	case 6, 7:
		if depth > 0 {
			return "if " + m.expr("b", 2) + " " + m.block(depth-1) + m.pick("", "else "+m.block(depth-1))
		}
	case 8:
		if depth > 0 {
			return "repeat " + m.pick("0", "1", "2", "5") + " " + m.block(depth-1)
		}
	}
	return "log " + m.expr("t", 2) + "; "
}

// program returns a random program that is right.
func program(t *testing.T, r *rand.Rand, options string) api.Program {
	t.Helper()
	m := &maker{r: r}
	s := "program p " + options + m.block(3)
	x, p := parser.Parse(s)
	if p.E != api.OK {
		t.Fatalf("the source %q: %v", s, p)
	}
	y, p := typing.Check(x)
	if p.E != api.OK {
		t.Fatalf("the source %q: %v", s, p)
	}
	return y.Programs[0]
}

// edge returns random headers and a status.
func edge(r *rand.Rand) api.Edge {
	e := api.Edge{Status: 200 + r.Intn(3)}
	for range r.Intn(5) {
		e.Headers = append(e.Headers, api.Header{Name: string(rune('a' + r.Intn(4))), Value: []string{"", "a", "x"}[r.Intn(3)]})
	}
	return e
}
