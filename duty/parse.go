package duty

import (
	"slices"

	"cocket/api"
)

const maxTurns = 50

// parser is what the lines so far have made.
type parser struct {
	inputs      []api.Input
	open        []*block
	known       map[string]bool // the names that are inputs, or that a line set
	steps, outs int             // how many lines begin a step; and how many of the others are out lines
	begun       bool            // whether there was a line other than an input
}

// block is a step that has no end yet, and the steps of its branch that is open. The first block is the whole program.
type block struct {
	step   api.Step
	inElse bool
	steps  []api.Step
}

func newParser() *parser {
	return &parser{open: []*block{{}}, known: map[string]bool{}}
}

// last is the block that is within all others.
func (p *parser) last() *block {
	return p.open[len(p.open)-1]
}

// line adds a line.
func (p *parser) line(text string) api.Errno {
	tokens, ok := split(text)
	if !ok {
		return api.ErrForm
	}
	r := &reader{tokens: tokens}
	switch {
	case r.isDone():
		return api.OK
	case r.takes("in"):
		return p.input(r)
	}
	p.begun = true
	switch {
	case r.takes("else"):
		return p.turn(r)
	case r.takes("end"):
		return p.end(r)
	}
	return p.begin(r.step(), r.isDone())
}

func (p *parser) input(r *reader) api.Errno {
	in := api.Input{Name: r.name(), Lo: r.number(), Hi: r.number()}
	switch {
	case !r.isDone() || p.begun:
		return api.ErrForm
	case p.known[in.Name]:
		return api.ErrExists
	case in.Lo > in.Hi:
		return api.ErrArg
	case len(p.inputs) == api.MaxInputs:
		return api.ErrLimit
	}
	p.known[in.Name] = true
	p.inputs = append(p.inputs, in)
	return api.OK
}

// turn goes from the Then of an if to its Else.
func (p *parser) turn(r *reader) api.Errno {
	b := p.last()
	if !r.isDone() || len(p.open) == 1 || b.step.Kind != api.StepIf || b.inElse {
		return api.ErrForm
	}
	b.step.Then, b.steps, b.inElse = b.steps, nil, true
	return api.OK
}

func (p *parser) end(r *reader) api.Errno {
	if !r.isDone() || len(p.open) == 1 {
		return api.ErrForm
	}
	b := p.last()
	if b.inElse {
		b.step.Else = b.steps
	} else {
		b.step.Then = b.steps
	}
	p.open = p.open[:len(p.open)-1]
	p.add(b.step)
	return api.OK
}

// add adds a step, with all that is within it, to the branch that is open.
func (p *parser) add(s api.Step) {
	b := p.last()
	b.steps = append(b.steps, s)
}

// step reads what a line says of the step that it begins.
func (r *reader) step() api.Step {
	var s api.Step
	switch {
	case r.takes("set"):
		s.Kind = api.StepSet
		s.Name = r.name()
		r.expect("=")
		s.A = r.sum()
	case r.takes("if"):
		s.Kind = api.StepIf
		s.A = r.sum()
		s.Equal = r.takes("=")
		if !s.Equal {
			r.expect("<")
		}
		s.B = r.sum()
	case r.takes("repeat"):
		s.Kind = api.StepRepeat
		s.N = r.number()
		if s.N < 0 || s.N > maxTurns {
			r.fail()
		}
	case r.takes("out"):
		s.Kind = api.StepOut
		s.Name = r.name()
	default:
		r.fail()
	}
	return s
}

// begin adds the step that a line begins; isForm tells whether the line has a form.
func (p *parser) begin(s api.Step, isForm bool) api.Errno {
	isOut := s.Kind == api.StepOut
	switch {
	case !isForm || len(p.open) > api.MaxDepth || depth(s.A) > api.MaxDepth || depth(s.B) > api.MaxDepth:
		return api.ErrForm
	case !p.knows(s.A) || !p.knows(s.B) || isOut && !p.known[s.Name]:
		return api.ErrNone
	case isOut && p.outs == api.MaxOuts || !isOut && p.steps == api.MaxSteps:
		return api.ErrLimit
	}
	switch s.Kind {
	case api.StepOut:
		p.outs++
		p.add(s)
		return api.OK
	case api.StepSet:
		p.known[s.Name] = true
		p.add(s)
	default:
		p.open = append(p.open, &block{step: s})
	}
	p.steps++
	return api.OK
}

// knows reports whether all names in a value are known.
func (p *parser) knows(v api.Value) bool {
	if v.Kind == api.ValueVariable {
		return p.known[v.Name]
	}
	return !slices.ContainsFunc(v.Parts, func(part api.Value) bool { return !p.knows(part) })
}

func depth(v api.Value) int {
	deepest := 0
	for _, part := range v.Parts {
		deepest = max(deepest, depth(part))
	}
	return 1 + deepest
}
