package duty

import "cocket/api"

// runner is a program that runs.
type runner struct {
	variables []int
	fuel      int
	outs      []int
	taken     []bool
}

// execute runs a program, if it and its inputs are valid, to its end.
func execute(p api.Program, inputs []int) (*runner, api.Errno) {
	q, ok := load(p)
	if !ok || !isWithin(q.inputs, inputs) {
		return nil, api.ErrArg
	}
	r := &runner{variables: make([]int, q.variables), fuel: api.MaxFuel, taken: make([]bool, q.branches)}
	copy(r.variables, inputs)
	if e := r.steps(q.steps); e != api.OK {
		return nil, e
	}
	return r, api.OK
}

func isWithin(inputs []api.Input, numbers []int) bool {
	if len(inputs) != len(numbers) {
		return false
	}
	for i, in := range inputs {
		if numbers[i] < in.Lo || numbers[i] > in.Hi {
			return false
		}
	}
	return true
}

func (r *runner) steps(list []step) api.Errno {
	for _, s := range list {
		if r.fuel == 0 {
			return api.ErrFuel
		}
		r.fuel--
		if e := r.step(s); e != api.OK {
			return e
		}
	}
	return api.OK
}

func (r *runner) step(s step) api.Errno {
	switch s := s.(type) {
	case *setStep:
		n, e := r.compute(&s.sum)
		if e != api.OK {
			return e
		}
		r.variables[s.variable] = n
	case *ifStep:
		return r.choose(s)
	case *repeatStep:
		for range s.times {
			if e := r.steps(s.within); e != api.OK {
				return e
			}
		}
	case *outStep:
		r.outs = append(r.outs, r.variables[s.variable])
	}
	return api.OK
}

func (r *runner) choose(s *ifStep) api.Errno {
	a, e := r.compute(&s.a)
	if e != api.OK {
		return e
	}
	b, e := r.compute(&s.b)
	if e != api.OK {
		return e
	}
	if s.equal && a == b || !s.equal && a < b {
		r.taken[s.branch] = true
		return r.steps(s.then)
	}
	r.taken[s.branch+1] = true
	return r.steps(s.otherwise)
}

func (r *runner) compute(v *value) (int, api.Errno) {
	switch v.kind {
	case api.ValueNumber:
		return v.n, api.OK
	case api.ValueVariable:
		return r.variables[v.n], api.OK
	}
	a, e := r.compute(v.left)
	if e != api.OK {
		return 0, e
	}
	b, e := r.compute(v.right)
	if e != api.OK {
		return 0, e
	}
	if v.kind == api.ValueOver && b == 0 {
		return 0, api.ErrZero
	}
	n := result(v.kind, a, b)
	if n < -api.MaxAmount || n > api.MaxAmount {
		return 0, api.ErrRange
	}
	return n, api.OK
}

// result is what an operation makes of two amounts, the second of which is not 0 if it divides. What is greater than all amounts, or less, may be any number that is.
func result(kind, a, b int) int {
	switch kind {
	case api.ValueSum:
		return a + b
	case api.ValueLess:
		return a - b
	case api.ValueTimes:
		return product(a, b)
	case api.ValueOver:
		return quotient(a, b)
	case api.ValueMin:
		return min(a, b)
	}
	return max(a, b)
}

func product(a, b int) int {
	// The true product may be beyond what an int can be.
	if a != 0 && size(b) > api.MaxAmount/size(a) {
		if (a < 0) == (b < 0) {
			return api.MaxAmount + 1
		}
		return -api.MaxAmount - 1
	}
	return a * b
}

func size(n int) int {
	return max(n, -n)
}

func quotient(a, b int) int {
	n := a / b
	if a%b != 0 && (a < 0) != (b < 0) {
		n--
	}
	return n
}
