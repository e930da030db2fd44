package duty

import (
	"slices"

	"cocket/api"
)

// place is what is known at a place of a program: the bounds of each variable. The zero value is a place that is never come to.
type place struct {
	come   bool
	bounds []api.Bounds
}

// start is the place before all steps.
func (p *program) start() place {
	at := place{true, make([]api.Bounds, p.variables)}
	for i, in := range p.inputs {
		at.bounds[i] = api.Bounds{Lo: in.Lo, Hi: in.Hi}
	}
	return at
}

type analysis struct {
	report api.Report
	fuel   int
	spent  bool // whether there was no fuel for a step; then the report is worth nothing
}

func newAnalysis(p *program) *analysis {
	none := api.Bounds{Lo: 1, Hi: 0}
	report := api.Report{Outs: slices.Repeat([]api.Bounds{none}, p.outs), Taken: make([]bool, p.branches)}
	return &analysis{report: report, fuel: api.MaxFuel}
}

// through goes through steps, and returns the place after them. It may change the place that it is given.
func (a *analysis) through(list []step, at place) place {
	for _, s := range list {
		if !at.come {
			break
		}
		if a.fuel == 0 {
			a.spent = true
			return place{}
		}
		a.fuel--
		at = a.step(s, at)
	}
	return at
}

func (a *analysis) step(s step, at place) place {
	switch s := s.(type) {
	case *setStep:
		b, ok := a.compute(&s.sum, at)
		if !ok {
			return place{}
		}
		at.bounds[s.variable] = b
	case *ifStep:
		return a.choose(s, at)
	case *repeatStep:
		for range s.times {
			at = a.through(s.within, at)
		}
	case *outStep:
		a.report.Outs[s.index] = join(a.report.Outs[s.index], at.bounds[s.variable])
	}
	return at
}

func (a *analysis) choose(s *ifStep, at place) place {
	x, ok := a.compute(&s.a, at)
	if !ok {
		return place{}
	}
	y, ok := a.compute(&s.b, at)
	if !ok {
		return place{}
	}
	then := a.branch(s.branch, s.then, s.narrow(at, x, y, true))
	otherwise := a.branch(s.branch+1, s.otherwise, s.narrow(at, x, y, false))
	return joinPlaces(then, otherwise)
}

func (a *analysis) branch(index int, list []step, at place) place {
	if at.come {
		a.report.Taken[index] = true
	}
	return a.through(list, at)
}

// narrow returns the place at the beginning of the branch for a condition that is so, or that is not, with the bounds of its sides.
func (s *ifStep) narrow(at place, x, y api.Bounds, isSo bool) place {
	keptX, keptY := keep(s.equal, isSo, x, y)
	if isEmpty(keptX) || isEmpty(keptY) {
		return place{}
	}
	in := place{true, slices.Clone(at.bounds)}
	if s.a.isVariable() {
		in.bounds[s.a.n] = keptX
	}
	if s.b.isVariable() {
		// It may be the variable of the other side, which is cut already.
		in.bounds[s.b.n] = meet(in.bounds[s.b.n], keptY)
		if isEmpty(in.bounds[s.b.n]) {
			return place{}
		}
	}
	return in
}

// compute returns the bounds of a value: false if nothing comes out of it.
func (a *analysis) compute(v *value, at place) (api.Bounds, bool) {
	switch v.kind {
	case api.ValueNumber:
		return api.Bounds{Lo: v.n, Hi: v.n}, true
	case api.ValueVariable:
		return at.bounds[v.n], true
	}
	x, ok := a.compute(v.left, at)
	if !ok {
		return api.Bounds{}, false
	}
	y, ok := a.compute(v.right, at)
	if !ok {
		return api.Bounds{}, false
	}
	if v.kind == api.ValueOver && has(y, 0) {
		a.report.Zero = true
	}
	b := results(v.kind, x, y)
	amounts := api.Bounds{Lo: -api.MaxAmount, Hi: api.MaxAmount}
	if isEmpty(b) {
		return api.Bounds{}, false
	}
	if meet(b, amounts) != b {
		a.report.Beyond = true
		b = meet(b, amounts)
	}
	return b, !isEmpty(b)
}
