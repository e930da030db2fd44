package duty

import (
	"slices"
	"strconv"

	"cocket/api"
)

// source returns the source of a program, and whether the program is valid: whether its source is short enough, and the source of just this program.
func source(p api.Program) (string, bool) {
	w := &writer{}
	for _, in := range p.Inputs {
		w.line("in ", in.Name, " ", strconv.Itoa(in.Lo), " ", strconv.Itoa(in.Hi))
		if w.failed {
			break
		}
	}
	w.steps(p.Steps)
	if w.failed {
		return "", false
	}
	text := string(w.text)
	q, _, e := Parse(text)
	return text, e == api.OK && slices.Equal(p.Inputs, q.Inputs) && slices.EqualFunc(p.Steps, q.Steps, isSameStep)
}

func isSameStep(s, t api.Step) bool {
	return s.Kind == t.Kind && s.N == t.N && s.Name == t.Name && s.Equal == t.Equal &&
		isSameValue(s.A, t.A) && isSameValue(s.B, t.B) &&
		slices.EqualFunc(s.Then, t.Then, isSameStep) && slices.EqualFunc(s.Else, t.Else, isSameStep)
}

func isSameValue(v, u api.Value) bool {
	return v.Kind == u.Kind && v.N == u.N && v.Name == u.Name && slices.EqualFunc(v.Parts, u.Parts, isSameValue)
}

// writer writes a source. Of a program that is not valid, and may even contain itself, it writes no more than a source may have.
type writer struct {
	text   []byte
	failed bool
}

func (w *writer) write(words ...string) {
	for _, word := range words {
		if len(word) > api.MaxText-len(w.text) {
			w.failed = true
			return
		}
		w.text = append(w.text, word...)
	}
}

func (w *writer) line(words ...string) {
	w.write(words...)
	w.write("\n")
}

func (w *writer) steps(list []api.Step) {
	for _, s := range list {
		if w.failed {
			return
		}
		w.step(s)
	}
}

func (w *writer) step(s api.Step) {
	switch s.Kind {
	case api.StepSet:
		w.write("set ", s.Name, " = ")
		w.value(s.A, bindsSum, 1)
		w.line()
	case api.StepIf:
		w.condition(s)
		w.steps(s.Then)
		if len(s.Else) > 0 {
			w.line("else")
			w.steps(s.Else)
		}
		w.line("end")
	case api.StepRepeat:
		w.line("repeat ", strconv.Itoa(s.N))
		w.steps(s.Then)
		w.line("end")
	case api.StepOut:
		w.line("out ", s.Name)
	default:
		w.failed = true
	}
}

func (w *writer) condition(s api.Step) {
	w.write("if ")
	w.value(s.A, bindsSum, 1)
	if s.Equal {
		w.write(" = ")
	} else {
		w.write(" < ")
	}
	w.value(s.B, bindsSum, 1)
	w.line()
}

// How closely the parts of an operation are bound, from the least on.
const (
	bindsSum = iota
	bindsTerm
	bindsUnit
)

// value writes a value that is so many operations deep where what is there has to bind at least so closely.
func (w *writer) value(v api.Value, binding, deep int) {
	if w.failed || deep > api.MaxDepth {
		w.failed = true
		return
	}
	switch v.Kind {
	case api.ValueNumber:
		w.write(strconv.Itoa(v.N))
	case api.ValueVariable:
		w.write(v.Name)
	case api.ValueSum, api.ValueLess:
		w.chain(v, bindsSum, binding, deep)
	case api.ValueTimes, api.ValueOver:
		w.chain(v, bindsTerm, binding, deep)
	case api.ValueMin, api.ValueMax:
		w.write(sign(v.Kind), "(")
		w.parts(v, ", ", bindsSum, bindsSum, deep)
		w.write(")")
	default:
		w.failed = true
	}
}

// chain writes an operation that binds that closely.
func (w *writer) chain(v api.Value, binds, binding, deep int) {
	if binds < binding {
		w.write("(")
	}
	// A chain goes from left to right: a right part has to bind closer.
	w.parts(v, " "+sign(v.Kind)+" ", binds, binds+1, deep)
	if binds < binding {
		w.write(")")
	}
}

func (w *writer) parts(v api.Value, between string, left, right, deep int) {
	if len(v.Parts) != 2 {
		w.failed = true
		return
	}
	w.value(v.Parts[0], left, deep+1)
	w.write(between)
	w.value(v.Parts[1], right, deep+1)
}
