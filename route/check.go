package route

import (
	"cocket/api"
)

// check returns the error of the arguments of a function with a timetable; times are at and by, as far as it has them.
func check(n int, legs []api.Leg, change, from, to int, times ...int) api.Errno {
	if !isWithin(n, 1, api.MaxPlaces) {
		return api.ErrArg
	}
	if len(legs) > api.MaxLegs {
		return api.ErrLimit
	}
	for _, leg := range legs {
		if !isLeg(n, leg) {
			return api.ErrArg
		}
	}
	if !isWithin(change, 0, api.MaxChange) || !isPlace(n, from) || !isPlace(n, to) {
		return api.ErrArg
	}
	for _, time := range times {
		if !isWithin(time, 0, api.MaxTime) {
			return api.ErrArg
		}
	}
	return api.OK
}

func isLeg(n int, leg api.Leg) bool {
	return isPlace(n, leg.From) && isPlace(n, leg.To) && leg.From != leg.To &&
		0 <= leg.Dep && leg.Dep < leg.Arr && leg.Arr <= api.MaxTime && isWithin(leg.Line, 0, api.MaxLine)
}

func isPlace(n, place int) bool {
	return isWithin(place, 0, n-1)
}

func isProfile(profile []api.Stop) bool {
	if len(profile) > api.MaxStops {
		return false
	}
	for i, p := range profile {
		if p.Dep < 0 || p.Dep >= p.Arr || p.Arr > 2*api.MaxTime {
			return false
		}
		if i > 0 && (p.Dep <= profile[i-1].Dep || p.Arr <= profile[i-1].Arr) {
			return false
		}
	}
	return true
}

func isWithin(n, least, greatest int) bool {
	return n >= least && n <= greatest
}
