package origin

import (
	"slices"

	"cocket/api"
)

// check returns the error that every function of records returns first.
func check(m int, things []api.Made) api.Errno {
	if !isCount(m) {
		return api.ErrArg
	}
	if len(things) > api.MaxThings {
		return api.ErrLimit
	}
	for i, thing := range things {
		if !isMade(thing, m+i) {
			return api.ErrArg
		}
	}
	return api.OK
}

// checkNumber is check, for the functions that are asked of a source or thing.
func checkNumber(m int, things []api.Made, no int) api.Errno {
	if e := check(m, things); e != api.OK {
		return e
	}
	if no < 0 || no >= m+len(things) {
		return api.ErrNone
	}
	return api.OK
}

func checkTerms(m int, terms []api.Term) api.Errno {
	if !isCount(m) {
		return api.ErrArg
	}
	if len(terms) > api.MaxTerms {
		return api.ErrLimit
	}
	if !areAll(terms, func(t api.Term) bool { return isTerm(m, t) }) {
		return api.ErrArg
	}
	return api.OK
}

// isCount reports whether there can be so many sources.
func isCount(m int) bool {
	return isWithin(m, 1, api.MaxSources)
}

// isMade reports whether the thing with this number is made of what has lesser numbers.
func isMade(thing api.Made, number int) bool {
	return len(thing.Ways) <= api.MaxWays && areAll(thing.Ways, func(way []int) bool {
		return len(way) <= api.MaxParts && areAll(way, func(part int) bool { return isWithin(part, 0, number-1) })
	})
}

func isTerm(m int, t api.Term) bool {
	return isWithin(t.Times, 1, api.MaxTimes) && len(t.Powers) == m &&
		areAll(t.Powers, func(power int) bool { return isWithin(power, 0, api.MaxPower) })
}

// areValues reports whether there is such a ring, and these are values of it, one for each source.
func areValues(m, ring int, sources []int) bool {
	return len(sources) == m && areAll(sources, func(v int) bool { return isValue(m, ring, v) })
}

func isValue(m, ring, v int) bool {
	switch ring {
	case api.RingHave:
		return isWithin(v, 0, 1)
	case api.RingWays:
		return isAmount(v)
	case api.RingCost:
		return v == api.Never || isAmount(v)
	case api.RingTrust, api.RingDoubt:
		return isWithin(v, 0, fullTrust)
	case api.RingParts:
		return v == api.Never || isWithin(v, 0, everything(m))
	}
	return false
}

func isAmount(v int) bool {
	return isWithin(v, 0, api.MaxTimes)
}

func isWithin(n, least, greatest int) bool {
	return n >= least && n <= greatest
}

func areAll[T any](list []T, is func(T) bool) bool {
	return !slices.ContainsFunc(list, func(v T) bool { return !is(v) })
}
