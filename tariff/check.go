package tariff

import (
	"slices"

	"cocket/api"
)

// check returns the error that every function of a tariff returns first.
func check(k int, t []api.Rule) api.Errno {
	if !isCount(k) {
		return api.ErrArg
	}
	if len(t) > api.MaxRules {
		return api.ErrLimit
	}
	if slices.ContainsFunc(t, func(r api.Rule) bool { return !isValid(k, r) }) {
		return api.ErrArg
	}
	return api.OK
}

// isCount reports whether things can have so many marks.
func isCount(k int) bool {
	return k >= 1 && k <= api.MaxMarks
}

func isMark(n int) bool {
	return n >= 0 && n <= api.MaxMark
}

func isThing(k int, thing []int) bool {
	return len(thing) == k && !slices.ContainsFunc(thing, func(n int) bool { return !isMark(n) })
}

func isBand(b api.Band) bool {
	return b.Lo >= 0 && b.Lo < b.Hi && b.Hi <= api.MaxMark+1
}

func isValid(k int, r api.Rule) bool {
	return len(r.Bands) == k && r.Code >= 0 && r.Code <= api.MaxCode &&
		!slices.ContainsFunc(r.Bands, func(b api.Band) bool { return !isBand(b) })
}

// isRule reports whether there is a rule with this index.
func isRule(t []api.Rule, i int) bool {
	return i >= 0 && i < len(t)
}

// isFit reports whether the rule fits the thing.
func isFit(r api.Rule, thing []int) bool {
	for mark, b := range r.Bands {
		if thing[mark] < b.Lo || thing[mark] >= b.Hi {
			return false
		}
	}
	return true
}

func isDiagram(k int, d []api.Node) bool {
	return len(d) > 0 && len(d) <= api.MaxNodes &&
		!slices.ContainsFunc(d, func(n api.Node) bool { return !isNode(k, d, n) })
}

func isNode(k int, d []api.Node, n api.Node) bool {
	if n.Mark < 0 || n.Mark >= k || !isCuts(n.Cuts) || len(n.To) != len(n.Cuts) {
		return false
	}
	for _, to := range n.To {
		if to >= 0 && (to >= len(d) || d[to].Mark <= n.Mark) || to < atCode(api.MaxCode) {
			return false
		}
	}
	return true
}

func isCuts(cuts []int) bool {
	before := 0
	for _, cut := range cuts {
		if cut <= before {
			return false
		}
		before = cut
	}
	return before == api.MaxMark+1
}
