package route

import (
	"cmp"
	"slices"

	"cocket/api"
)

// look returns the arrival of the first point that leaves not earlier than at, if there is one.
func look(profile []api.Stop, at int) (int, bool) {
	first, _ := slices.BinarySearchFunc(profile, at, func(p api.Stop, at int) int { return cmp.Compare(p.Dep, at) })
	if first == len(profile) {
		return 0, false
	}
	return profile[first].Arr, true
}

// lookBack returns the departure of the last point that comes not later than by, if there is one.
func lookBack(profile []api.Stop, by int) (int, bool) {
	for _, p := range slices.Backward(profile) {
		if p.Arr <= by {
			return p.Dep, true
		}
	}
	return 0, false
}

// best returns the points of which none is as good as another one, in ascending order.
func best(points []api.Stop) []api.Stop {
	slices.SortFunc(points, func(a, b api.Stop) int {
		return cmp.Or(cmp.Compare(b.Dep, a.Dep), cmp.Compare(a.Arr, b.Arr))
	})
	var list []api.Stop
	for _, p := range points { // all before p leave as late as p or later: p must come earlier than they do
		if len(list) == 0 || p.Arr < list[len(list)-1].Arr {
			list = append(list, p)
		}
	}
	slices.Reverse(list)
	return list
}
