package route

import (
	"slices"

	"cocket/api"
)

// least returns, for each leg, the least worth of the journeys that begin with it: the worth of the last leg, and so much more for each leg before that.
func (t timetable) least(worth func(api.Leg) int, more int) []int {
	list := make([]int, len(t.legs))
	for place, leg := range slices.Backward(t.order) {
		list[leg] = worth(t.legs[leg])
		for _, next := range t.order[place+1:] {
			if t.follows(leg, next) {
				list[leg] = min(list[leg], list[next]+more)
			}
		}
	}
	return list
}

// shortest returns the journey with the fewest legs that is wished for, and of several the lexicographically least, if there is one.
func (t timetable) shortest(w wish) ([]int, bool) {
	if w.from == w.to {
		return nil, w.at <= w.by
	}
	counts := t.least(w.count, 1)
	leg := nearest(counts, func(leg int) bool { return w.begins(t.legs[leg]) })
	if leg < 0 {
		return nil, false
	}
	journey := []int{leg}
	for counts[leg] > 1 {
		last := leg
		leg = nearest(counts, func(leg int) bool { return t.follows(last, leg) })
		journey = append(journey, leg)
	}
	return journey, true
}

// nearest returns the first of the legs with the least count, of those that can be taken, or -1 if none of these leads anywhere.
func nearest(counts []int, canTake func(leg int) bool) int {
	first, least := -1, never
	for leg, count := range counts {
		if count < least && canTake(leg) {
			first, least = leg, count
		}
	}
	return first
}

// profile returns the best points of the journeys between two places.
func (t timetable) profile(from, to int) []api.Stop {
	if from == to {
		return nil
	}
	w := wish{from, to, 0, api.MaxTime}
	var points []api.Stop
	for leg, arrival := range t.least(w.arrival, 0) {
		if arrival < never && w.begins(t.legs[leg]) {
			points = append(points, api.Stop{Dep: t.legs[leg].Dep, Arr: arrival})
		}
	}
	return best(points)
}

// changes returns, for each leg, the fewest changes of the journeys that end with it and begin as wished.
func (t timetable) changes(w wish) []int {
	list := slices.Repeat([]int{never}, len(t.legs))
	for place, leg := range t.order {
		if w.begins(t.legs[leg]) {
			list[leg] = 0
		}
		for _, last := range t.order[:place] {
			if !t.follows(last, leg) {
				continue
			}
			count := list[last]
			if t.isChange(last, leg) {
				count++
			}
			list[leg] = min(list[leg], count)
		}
	}
	return list
}

// trips returns the best trips between two places that are not the same.
func (t timetable) trips(w wish) []api.Trip {
	arrivals := slices.Repeat([]int{never}, api.MaxLegs) // the earliest one of each number of changes
	for leg, count := range t.changes(w) {
		if count < never && w.ends(t.legs[leg]) {
			arrivals[count] = min(arrivals[count], t.legs[leg].Arr)
		}
	}
	var list []api.Trip
	least := never
	for count, arrival := range arrivals {
		if arrival < least {
			least = arrival
			list = append(list, api.Trip{Changes: count, Arr: arrival})
		}
	}
	return list
}
