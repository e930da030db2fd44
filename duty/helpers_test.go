package duty_test

import (
	"fmt"
	"math/rand/v2"
	"strings"
	"testing"

	"cocket/api"
	"cocket/duty"
)

// The tests call the package only as its users do, and hold it against slow answers of their own (slow_test.go).

// lines is a source of these lines.
func lines(list ...string) string {
	return strings.Join(list, "\n") + "\n"
}

// repeated is a source in which a line stands so many times.
func repeated(line string, times int) string {
	return strings.Repeat(line+"\n", times)
}

// full is a sum that is so deep, of as many numbers as it can have.
func full(deep int) string {
	if deep == 1 {
		return "1"
	}
	return "(" + full(deep-1) + "+" + full(deep-1) + ")"
}

func parsed(t *testing.T, text string) api.Program {
	t.Helper()
	p, n, e := duty.Parse(text)
	if e != api.OK || n != 0 {
		t.Fatalf("%q: line %d, error %d", text, n, e)
	}
	return p
}

func printed(t *testing.T, p api.Program) string {
	t.Helper()
	text, e := duty.Print(p)
	if e != api.OK {
		t.Fatalf("%+v: error %d", p, e)
	}
	return text
}

func analysed(t *testing.T, p api.Program) api.Report {
	t.Helper()
	r, e := duty.Analyse(p)
	if e != api.OK {
		t.Fatalf("%q: error %d", printed(t, p), e)
	}
	return r
}

// isSame compares programs, or reports; an empty list is the same as none.
func isSame(a, b any) bool {
	return fmt.Sprintf("%+v", a) == fmt.Sprintf("%+v", b)
}

func number(n int) api.Value {
	return api.Value{Kind: api.ValueNumber, N: n}
}

func variable(name string) api.Value {
	return api.Value{Kind: api.ValueVariable, Name: name}
}

func operation(kind int, a, b api.Value) api.Value {
	return api.Value{Kind: kind, Parts: []api.Value{a, b}}
}

func set(name string, v api.Value) api.Step {
	return api.Step{Kind: api.StepSet, Name: name, A: v}
}

func out(name string) api.Step {
	return api.Step{Kind: api.StepOut, Name: name}
}

func repeat(n int, within ...api.Step) api.Step {
	return api.Step{Kind: api.StepRepeat, N: n, Then: within}
}

// maker makes random programs.
type maker struct {
	*rand.Rand
	known       []string
	steps, outs int // how many of them may still be made
	numbers     []int
	deepest     int // of its values
	turns       int // at most in a repeat
}

// many calls test with random programs: of small numbers, and with inputs of few values, every other time.
func many(times int, test func(r *rand.Rand, p api.Program)) {
	r := rand.New(rand.NewPCG(3, 2026))
	for i := range times {
		m := &maker{Rand: r, steps: 2 + r.IntN(12), outs: 1 + r.IntN(5), deepest: 1 + r.IntN(4), turns: 4}
		m.numbers = []int{-3, -1, 0, 1, 2, 5}
		if i%2 == 1 {
			m.numbers = append(m.numbers, -1000000, 1000000, 999999, 1<<19)
		}
		test(r, m.program(i%2 == 1))
	}
}

func (m *maker) program(wide bool) api.Program {
	var p api.Program
	for _, name := range []string{"a", "b", "c"}[:m.IntN(4)] {
		lo := m.number()
		hi := lo + m.IntN(4)
		if wide {
			lo, hi = min(lo, m.number()), max(lo, m.number())
		}
		p.Inputs = append(p.Inputs, api.Input{Name: name, Lo: lo, Hi: hi})
		m.known = append(m.known, name)
	}
	p.Steps = m.list(1)
	if len(m.known) > 0 && m.outs > 0 {
		p.Steps = append(p.Steps, out(m.name()))
	}
	return p
}

func (m *maker) number() int {
	return m.numbers[m.IntN(len(m.numbers))]
}

func (m *maker) name() string {
	return m.known[m.IntN(len(m.known))]
}

func (m *maker) list(deep int) []api.Step {
	var list []api.Step
	for range m.IntN(6) {
		if m.steps == 0 || deep > 5 {
			break
		}
		list = append(list, m.step(deep))
	}
	return list
}

func (m *maker) step(deep int) api.Step {
	m.steps--
	switch n := m.IntN(10); {
	case n == 0:
		times := m.IntN(m.turns)
		return repeat(times, m.list(deep+1)...)
	case n < 4:
		s := api.Step{Kind: api.StepIf, A: m.value(m.deepest), B: m.value(m.deepest), Equal: m.IntN(2) == 0}
		if len(m.known) > 0 && m.IntN(2) == 0 {
			s.A = variable(m.name())
		}
		if len(m.known) > 0 && m.IntN(3) == 0 {
			s.B = variable(m.name())
		}
		s.Then = m.list(deep + 1)
		s.Else = m.list(deep + 1)
		return s
	case n < 6 && m.outs > 0 && len(m.known) > 0:
		m.steps++
		m.outs--
		return out(m.name())
	}
	s := set([]string{"a", "b", "x", "y", "z"}[m.IntN(5)], m.value(m.deepest))
	m.known = append(m.known, s.Name)
	return s
}

func (m *maker) value(deepest int) api.Value {
	if deepest > 1 && m.IntN(4) > 0 {
		return operation(2+m.IntN(6), m.value(deepest-1), m.value(deepest-1))
	}
	if len(m.known) > 0 && m.IntN(3) > 0 {
		return variable(m.name())
	}
	return number(m.number())
}

// randomInputs is inputs within the bounds of a program's, often at an end of them.
func randomInputs(r *rand.Rand, p api.Program) []int {
	var inputs []int
	for _, in := range p.Inputs {
		inputs = append(inputs, []int{in.Lo, in.Hi, in.Lo + r.IntN(in.Hi-in.Lo+1)}[r.IntN(3)])
	}
	return inputs
}

// allInputs ranges over all inputs within the bounds of a program's.
func allInputs(p api.Program) func(yield func([]int) bool) {
	return func(yield func([]int) bool) {
		inputs := make([]int, len(p.Inputs))
		var choose func(i int) bool
		choose = func(i int) bool {
			if i == len(inputs) {
				return yield(inputs)
			}
			for n := p.Inputs[i].Lo; n <= p.Inputs[i].Hi; n++ {
				inputs[i] = n
				if !choose(i + 1) {
					return false
				}
			}
			return true
		}
		choose(0)
	}
}

// isSmall reports whether a program has so few inputs that all can be tried.
func isSmall(p api.Program) bool {
	n := 1
	for _, in := range p.Inputs {
		n *= in.Hi - in.Lo + 1
		if n > 300 {
			return false
		}
	}
	return true
}

// scribble writes a program in another way than Print: blanks in any number, lines without anything, and parentheses around all operations.
func scribble(r *rand.Rand, p api.Program) string {
	var b strings.Builder
	line := func(tokens ...string) {
		for range r.IntN(2) {
			b.WriteString(strings.Repeat(" ", r.IntN(2)) + "\n")
		}
		last := byte(' ')
		for _, token := range tokens {
			if isLetter(last) && isLetter(token[0]) || isDigit(last) && isDigit(token[0]) {
				b.WriteByte(' ')
			}
			b.WriteString(strings.Repeat(" ", r.IntN(2)*r.IntN(3)) + token)
			last = token[len(token)-1]
		}
		b.WriteString(strings.Repeat(" ", r.IntN(2)) + "\n")
	}
	for _, in := range p.Inputs {
		line("in", in.Name, fmt.Sprint(in.Lo), fmt.Sprint(in.Hi))
	}
	var steps func(list []api.Step)
	steps = func(list []api.Step) {
		for _, s := range list {
			switch s.Kind {
			case api.StepSet:
				line(append([]string{"set", s.Name, "="}, tokensOf(r, s.A)...)...)
			case api.StepOut:
				line("out", s.Name)
			case api.StepRepeat:
				line("repeat", fmt.Sprint(s.N))
				steps(s.Then)
				line("end")
			case api.StepIf:
				is := map[bool]string{true: "=", false: "<"}[s.Equal]
				line(append(append(append([]string{"if"}, tokensOf(r, s.A)...), is), tokensOf(r, s.B)...)...)
				steps(s.Then)
				if len(s.Else) > 0 || r.IntN(2) == 0 {
					line("else")
					steps(s.Else)
				}
				line("end")
			}
		}
	}
	steps(p.Steps)
	return b.String()
}

func isLetter(c byte) bool { return c >= 'a' && c <= 'z' }
func isDigit(c byte) bool  { return c >= '0' && c <= '9' }

func tokensOf(r *rand.Rand, v api.Value) []string {
	var tokens []string
	switch v.Kind {
	case api.ValueNumber:
		tokens = []string{fmt.Sprint(v.N)}
	case api.ValueVariable:
		tokens = []string{v.Name}
	default:
		a, b := tokensOf(r, v.Parts[0]), tokensOf(r, v.Parts[1])
		sign := []string{"", "", "+", "-", "*", "/", "min", "max"}[v.Kind]
		if v.Kind >= api.ValueMin {
			a = append([]string{sign}, append(append([]string{"("}, a...), ",")...)
			return append(append(a, b...), ")")
		}
		return append([]string{"("}, append(append(append(a, sign), b...), ")")...)
	}
	if r.IntN(4) == 0 {
		tokens = append([]string{"("}, append(tokens, ")")...)
	}
	return tokens
}
