package duty

import "cocket/api"

// step is a step of a program that is valid: a *setStep, *ifStep, *repeatStep or *outStep.
type step interface {
	// isStep keeps other types from being steps.
	isStep()
}

type setStep struct {
	variable int
	sum      value
}

type ifStep struct {
	a, b            value
	equal           bool
	then, otherwise []step
	branch          int // the index of its Then among the branches; its Else is the next one
}

type repeatStep struct {
	times  int
	within []step
}

type outStep struct {
	variable int
	index    int // among the out lines
}

func (*setStep) isStep()    {}
func (*ifStep) isStep()     {}
func (*repeatStep) isStep() {}
func (*outStep) isStep()    {}

// value is an expression: of a variable, n is the index of it.
type value struct {
	kind, n     int
	left, right *value
}

func (v value) isVariable() bool {
	return v.kind == api.ValueVariable
}

// program is a valid program whose variables have indices, the inputs the first ones.
type program struct {
	inputs                    []api.Input
	steps                     []step
	variables, branches, outs int
}

// load returns the program that a valid one describes.
func load(p api.Program) (*program, bool) {
	if _, ok := source(p); !ok {
		return nil, false
	}
	l := &loader{indices: map[string]int{}}
	for _, in := range p.Inputs {
		l.index(in.Name)
	}
	steps := l.steps(p.Steps)
	return &program{p.Inputs, steps, len(l.indices), l.branches, l.outs}, true
}

type loader struct {
	indices        map[string]int
	branches, outs int
}

func (l *loader) index(name string) int {
	i, ok := l.indices[name]
	if !ok {
		i = len(l.indices)
		l.indices[name] = i
	}
	return i
}

func (l *loader) steps(list []api.Step) []step {
	var steps []step
	for _, s := range list {
		steps = append(steps, l.step(s))
	}
	return steps
}

func (l *loader) step(s api.Step) step {
	switch s.Kind {
	case api.StepSet:
		return &setStep{l.index(s.Name), l.value(s.A)}
	case api.StepIf:
		made := &ifStep{a: l.value(s.A), b: l.value(s.B), equal: s.Equal, branch: l.branches}
		l.branches += 2
		made.then = l.steps(s.Then)
		made.otherwise = l.steps(s.Else)
		return made
	case api.StepRepeat:
		return &repeatStep{s.N, l.steps(s.Then)}
	}
	made := &outStep{l.index(s.Name), l.outs}
	l.outs++
	return made
}

func (l *loader) value(v api.Value) value {
	switch v.Kind {
	case api.ValueNumber:
		return value{kind: v.Kind, n: v.N}
	case api.ValueVariable:
		return value{kind: v.Kind, n: l.index(v.Name)}
	}
	left, right := l.value(v.Parts[0]), l.value(v.Parts[1])
	return value{kind: v.Kind, left: &left, right: &right}
}
