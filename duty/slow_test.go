package duty_test

import (
	"math/big"
	"slices"

	"cocket/api"
)

// Slow answers, written word for word after the chapter: numbers of any size, variables in maps, an error that ends all by a panic.

// counted is how many steps of a kind there are in a list.
func counted(kind int, list []api.Step) int {
	n := 0
	for _, s := range list {
		if s.Kind == kind {
			n++
		}
		n += counted(kind, s.Then) + counted(kind, s.Else)
	}
	return n
}

// slowResult is the result of an operation; nil of a division by 0.
func slowResult(kind, a, b int) *big.Int {
	x, y, z := big.NewInt(int64(a)), big.NewInt(int64(b)), new(big.Int)
	switch kind {
	case api.ValueSum:
		return z.Add(x, y)
	case api.ValueLess:
		return z.Sub(x, y)
	case api.ValueTimes:
		return z.Mul(x, y)
	case api.ValueOver:
		if b == 0 {
			return nil
		}
		if b < 0 { // Div rounds down only where the divisor is above 0
			x, y = x.Neg(x), y.Neg(y)
		}
		return z.Div(x, y)
	case api.ValueMin:
		return big.NewInt(int64(min(a, b)))
	}
	return big.NewInt(int64(max(a, b)))
}

var greatest = big.NewInt(api.MaxAmount)

type slowRunner struct {
	variables map[string]int
	outs      []int
	taken     []bool
	steps     int
}

// slowRun is what Run and Trace return of a valid program and inputs within their bounds.
func slowRun(p api.Program, inputs []int) (outs []int, taken []bool, e api.Errno) {
	m := &slowRunner{variables: map[string]int{}, taken: make([]bool, 2*counted(api.StepIf, p.Steps))}
	for i, in := range p.Inputs {
		m.variables[in.Name] = inputs[i]
	}
	defer func() {
		if thrown := recover(); thrown != nil {
			outs, taken, e = nil, nil, thrown.(api.Errno)
		}
	}()
	m.run(p.Steps, 0)
	return m.outs, m.taken, api.OK
}

func (m *slowRunner) run(list []api.Step, branch int) {
	for i, s := range list {
		m.steps++
		if m.steps > api.MaxFuel {
			panic(api.ErrFuel)
		}
		own := branch + 2*counted(api.StepIf, list[:i])
		switch s.Kind {
		case api.StepSet:
			m.variables[s.Name] = m.value(s.A)
		case api.StepOut:
			m.outs = append(m.outs, m.variables[s.Name])
		case api.StepRepeat:
			for range s.N {
				m.run(s.Then, own)
			}
		case api.StepIf:
			a := m.value(s.A)
			b := m.value(s.B)
			if s.Equal && a == b || !s.Equal && a < b {
				m.taken[own] = true
				m.run(s.Then, own+2)
			} else {
				m.taken[own+1] = true
				m.run(s.Else, own+2+2*counted(api.StepIf, s.Then))
			}
		}
	}
}

func (m *slowRunner) value(v api.Value) int {
	switch v.Kind {
	case api.ValueNumber:
		return v.N
	case api.ValueVariable:
		return m.variables[v.Name]
	}
	a := m.value(v.Parts[0])
	b := m.value(v.Parts[1])
	n := slowResult(v.Kind, a, b)
	if n == nil {
		panic(api.ErrZero)
	}
	if n.CmpAbs(greatest) > 0 {
		panic(api.ErrRange)
	}
	return int(n.Int64())
}

// knowledge is what is known at a place; nil if it is never come to. A variable that is not in it was never set.
type knowledge map[string]api.Bounds

type slowAnalysis struct {
	report api.Report
	steps  int
}

// never is thrown where a value has no result.
type never struct{}

func slowAnalyse(p api.Program) (report api.Report, e api.Errno) {
	a := &slowAnalysis{}
	a.report.Taken = make([]bool, 2*counted(api.StepIf, p.Steps))
	for range counted(api.StepOut, p.Steps) {
		a.report.Outs = append(a.report.Outs, api.Bounds{Lo: 1, Hi: 0})
	}
	at := knowledge{}
	for _, in := range p.Inputs {
		at[in.Name] = api.Bounds{Lo: in.Lo, Hi: in.Hi}
	}
	defer func() {
		if thrown := recover(); thrown != nil {
			report, e = api.Report{}, thrown.(api.Errno)
		}
	}()
	at = a.list(p.Steps, at, 0, 0)
	a.report.Ends = at != nil
	return a.report, api.OK
}

func (a *slowAnalysis) list(list []api.Step, at knowledge, branch, out int) knowledge {
	for i, s := range list {
		if at == nil {
			return nil
		}
		a.steps++
		if a.steps > api.MaxFuel {
			panic(api.ErrFuel)
		}
		before := list[:i]
		at = a.step(s, at, branch+2*counted(api.StepIf, before), out+counted(api.StepOut, before))
	}
	return at
}

func (a *slowAnalysis) step(s api.Step, at knowledge, branch, out int) (after knowledge) {
	switch s.Kind {
	case api.StepOut:
		have, now := a.report.Outs[out], at[s.Name]
		if have.Lo <= have.Hi {
			now = api.Bounds{Lo: min(have.Lo, now.Lo), Hi: max(have.Hi, now.Hi)}
		}
		a.report.Outs[out] = now
		return at
	case api.StepRepeat:
		for range s.N {
			at = a.list(s.Then, at, branch, out)
		}
		return at
	}
	// Only in this step: an error of the fuel, or of the steps within, goes on.
	x, y, ok := a.sides(s, at)
	if !ok {
		return nil
	}
	if s.Kind == api.StepSet {
		after = at.with(s.Name, x)
		return after
	}
	then, otherwise := slowThen(s, at, x, y), slowElse(s, at, x, y)
	a.report.Taken[branch] = a.report.Taken[branch] || then != nil
	a.report.Taken[branch+1] = a.report.Taken[branch+1] || otherwise != nil
	then = a.list(s.Then, then, branch+2, out)
	otherwise = a.list(s.Else, otherwise, branch+2+2*counted(api.StepIf, s.Then), out+counted(api.StepOut, s.Then))
	return slowJoin(then, otherwise)
}

// sides is the bounds of the values of a step.
func (a *slowAnalysis) sides(s api.Step, at knowledge) (x, y api.Bounds, ok bool) {
	defer func() {
		if thrown := recover(); thrown != nil {
			_ = thrown.(never)
			ok = false
		}
	}()
	x = a.value(s.A, at)
	y = a.value(s.B, at)
	return x, y, true
}

func (k knowledge) with(name string, b api.Bounds) knowledge {
	copied := knowledge{name: b}
	for other, have := range k {
		if other != name {
			copied[other] = have
		}
	}
	return copied
}

// cut cuts the bounds of a variable; nothing is cut of what is none.
func (k knowledge) cut(v api.Value, lo, hi int) knowledge {
	if k == nil || v.Kind != api.ValueVariable {
		return k
	}
	b := api.Bounds{Lo: max(lo, k[v.Name].Lo), Hi: min(hi, k[v.Name].Hi)}
	if b.Lo > b.Hi {
		return nil
	}
	return k.with(v.Name, b)
}

const far = 1 << 50

func slowThen(s api.Step, at knowledge, x, y api.Bounds) knowledge {
	neither := s.A.Kind != api.ValueVariable && s.B.Kind != api.ValueVariable
	if s.Equal {
		if neither && (x.Hi < y.Lo || y.Hi < x.Lo) {
			return nil
		}
		return at.cut(s.A, y.Lo, y.Hi).cut(s.B, x.Lo, x.Hi)
	}
	if neither && x.Lo >= y.Hi {
		return nil
	}
	return at.cut(s.A, -far, y.Hi-1).cut(s.B, x.Lo+1, far)
}

func slowElse(s api.Step, at knowledge, x, y api.Bounds) knowledge {
	neither := s.A.Kind != api.ValueVariable && s.B.Kind != api.ValueVariable
	if s.Equal {
		if neither && x == y && x.Lo == x.Hi {
			return nil
		}
		return at.leaveOut(s.A, x, y).leaveOut(s.B, y, x)
	}
	if neither && x.Hi < y.Lo {
		return nil
	}
	return at.cut(s.A, y.Lo, far).cut(s.B, -far, x.Hi)
}

// leaveOut leaves an end of the bounds of a variable, which are own, out if the other ones are this number only.
func (k knowledge) leaveOut(v api.Value, own, other api.Bounds) knowledge {
	if other.Lo == other.Hi && own.Lo == other.Lo {
		return k.cut(v, own.Lo+1, far)
	}
	if other.Lo == other.Hi && own.Hi == other.Hi {
		return k.cut(v, -far, own.Hi-1)
	}
	return k
}

func slowJoin(k, l knowledge) knowledge {
	if k == nil {
		return l
	}
	if l == nil {
		return k
	}
	joined := knowledge{}
	for _, each := range []knowledge{k, l} {
		for name := range each {
			joined[name] = api.Bounds{Lo: min(k[name].Lo, l[name].Lo), Hi: max(k[name].Hi, l[name].Hi)}
		}
	}
	return joined
}

func (a *slowAnalysis) value(v api.Value, at knowledge) api.Bounds {
	switch v.Kind {
	case api.ValueNumber:
		return api.Bounds{Lo: v.N, Hi: v.N}
	case api.ValueVariable:
		return at[v.Name]
	}
	x := a.value(v.Parts[0], at)
	y := a.value(v.Parts[1], at)
	seconds := []int{y.Lo, y.Hi}
	if v.Kind == api.ValueOver {
		a.report.Zero = a.report.Zero || y.Lo <= 0 && y.Hi >= 0
		seconds = slices.DeleteFunc([]int{y.Lo, y.Hi, -1, 1}, func(n int) bool { return n == 0 || n < y.Lo || n > y.Hi })
	}
	if len(seconds) == 0 {
		panic(never{})
	}
	var all []*big.Int
	for _, second := range seconds {
		all = append(all, slowResult(v.Kind, x.Lo, second), slowResult(v.Kind, x.Hi, second))
	}
	lo, hi := slices.MinFunc(all, (*big.Int).Cmp), slices.MaxFunc(all, (*big.Int).Cmp)
	least := new(big.Int).Neg(greatest)
	if lo.Cmp(least) < 0 || hi.Cmp(greatest) > 0 {
		a.report.Beyond = true
	}
	if lo.Cmp(greatest) > 0 || hi.Cmp(least) < 0 {
		panic(never{})
	}
	if lo.Cmp(least) < 0 {
		lo = least
	}
	if hi.Cmp(greatest) > 0 {
		hi = greatest
	}
	return api.Bounds{Lo: int(lo.Int64()), Hi: int(hi.Int64())}
}
