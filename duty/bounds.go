package duty

import "cocket/api"

func isEmpty(b api.Bounds) bool {
	return b.Lo > b.Hi
}

func has(b api.Bounds, n int) bool {
	return b.Lo <= n && n <= b.Hi
}

// meet is the numbers that both have.
func meet(x, y api.Bounds) api.Bounds {
	return api.Bounds{Lo: max(x.Lo, y.Lo), Hi: min(x.Hi, y.Hi)}
}

// join is bounds that reach over both, of which one may be empty.
func join(x, y api.Bounds) api.Bounds {
	if isEmpty(x) {
		return y
	}
	if isEmpty(y) {
		return x
	}
	return api.Bounds{Lo: min(x.Lo, y.Lo), Hi: max(x.Hi, y.Hi)}
}

// joinPlaces is the place to which one comes from both.
func joinPlaces(p, q place) place {
	if !p.come {
		return q
	}
	if !q.come {
		return p
	}
	for i, b := range q.bounds {
		p.bounds[i] = join(p.bounds[i], b)
	}
	return p
}

// results is the bounds of the results of an operation on numbers within these; empty if there are none.
func results(kind int, x, y api.Bounds) api.Bounds {
	seconds := []int{y.Lo, y.Hi}
	if kind == api.ValueOver {
		// A quotient is greatest, or least, where the divisor is farthest from 0 or nearest to it.
		seconds = []int{y.Lo, y.Hi, -1, 1}
	}
	all := api.Bounds{Lo: 1, Hi: 0}
	for _, b := range seconds {
		if kind == api.ValueOver && (b == 0 || !has(y, b)) {
			continue
		}
		for _, a := range [2]int{x.Lo, x.Hi} {
			n := result(kind, a, b)
			all = join(all, api.Bounds{Lo: n, Hi: n})
		}
	}
	return all
}

// keep returns what is left of the bounds of two sides if the first is less than the second, or equal to it; or if it is not so.
// If that cannot be, as far as the bounds show, nothing is left of either.
func keep(equal, isSo bool, x, y api.Bounds) (api.Bounds, api.Bounds) {
	switch {
	case equal && isSo:
		return meet(x, y), meet(x, y)
	case equal:
		return without(x, y), without(y, x)
	case isSo:
		return api.Bounds{Lo: x.Lo, Hi: min(x.Hi, y.Hi-1)}, api.Bounds{Lo: max(y.Lo, x.Lo+1), Hi: y.Hi}
	}
	return api.Bounds{Lo: max(x.Lo, y.Lo), Hi: x.Hi}, api.Bounds{Lo: y.Lo, Hi: min(y.Hi, x.Hi)}
}

// without leaves an end of x out if y is just this number.
func without(x, y api.Bounds) api.Bounds {
	switch {
	case y.Lo != y.Hi:
	case y.Lo == x.Lo:
		x.Lo++
	case y.Lo == x.Hi:
		x.Hi--
	}
	return x
}
