package duty

import (
	"slices"

	"cocket/api"
)

// reader reads the tokens of a line. After something that it did not expect it has no tokens left.
type reader struct {
	tokens []string
	failed bool
}

func (r *reader) fail() {
	r.tokens, r.failed = nil, true
}

// isDone reports whether all that was read was as expected, and nothing is left.
func (r *reader) isDone() bool {
	return !r.failed && len(r.tokens) == 0
}

// next is the token that is read next, or nothing.
func (r *reader) next() string {
	if len(r.tokens) == 0 {
		return ""
	}
	return r.tokens[0]
}

// takes reads this token if it is the next one.
func (r *reader) takes(token string) bool {
	if r.next() != token {
		return false
	}
	r.tokens = r.tokens[1:]
	return true
}

func (r *reader) expect(token string) {
	if !r.takes(token) {
		r.fail()
	}
}

func (r *reader) name() string {
	name := r.next()
	if !isName(name) {
		r.fail()
		return ""
	}
	r.takes(name)
	return name
}

func (r *reader) number() int {
	n, ok := number(r.next())
	if !ok {
		r.fail()
		return 0
	}
	r.tokens = r.tokens[1:]
	return n
}

func (r *reader) sum() api.Value {
	return r.chain(r.term, api.ValueSum, api.ValueLess)
}

func (r *reader) term() api.Value {
	return r.chain(r.unit, api.ValueTimes, api.ValueOver)
}

// chain reads parts with operations of these kinds between them, which go from left to right.
func (r *reader) chain(part func() api.Value, kinds ...int) api.Value {
	v := part()
	for {
		i := slices.IndexFunc(kinds, func(kind int) bool { return r.takes(sign(kind)) })
		if i < 0 {
			return v
		}
		right := part()
		v = api.Value{Kind: kinds[i], Parts: []api.Value{v, right}}
	}
}

func (r *reader) unit() api.Value {
	switch {
	case r.takes("("):
		v := r.sum()
		r.expect(")")
		return v
	case r.takes(sign(api.ValueMin)):
		return r.pair(api.ValueMin)
	case r.takes(sign(api.ValueMax)):
		return r.pair(api.ValueMax)
	case isName(r.next()):
		return api.Value{Kind: api.ValueVariable, Name: r.name()}
	}
	return api.Value{Kind: api.ValueNumber, N: r.number()}
}

func (r *reader) pair(kind int) api.Value {
	r.expect("(")
	left := r.sum()
	r.expect(",")
	right := r.sum()
	r.expect(")")
	return api.Value{Kind: kind, Parts: []api.Value{left, right}}
}

// sign is how an operation is written.
func sign(kind int) string {
	switch kind {
	case api.ValueSum:
		return "+"
	case api.ValueLess:
		return "-"
	case api.ValueTimes:
		return "*"
	case api.ValueOver:
		return "/"
	case api.ValueMin:
		return "min"
	}
	return "max"
}
