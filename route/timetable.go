package route

import (
	"cmp"
	"slices"

	"cocket/api"
)

// never is greater than every time, and than every number of legs or changes.
const never = api.MaxTime + api.MaxLegs

// timetable is the legs that there are, and the time to change. The legs are the nodes of a graph: from each one, arrows go to those that can follow it.
type timetable struct {
	legs   []api.Leg
	change int
	order  []int // the legs as they leave: what follows a leg comes behind it
}

// wish says which journeys are asked for: those from one place to another one that are not earlier than at and come not later than by.
type wish struct{ from, to, at, by int }

func newTimetable(legs []api.Leg, change int) timetable {
	t := timetable{legs: legs, change: change, order: make([]int, len(legs))}
	for i := range t.order {
		t.order[i] = i
	}
	slices.SortFunc(t.order, t.compareDepartures)
	return t
}

func (t timetable) compareDepartures(a, b int) int {
	return cmp.Compare(t.legs[a].Dep, t.legs[b].Dep)
}

// follows reports whether leg b can be taken right after leg a.
func (t timetable) follows(a, b int) bool {
	ready := t.legs[a].Arr
	if t.isChange(a, b) {
		ready += t.change
	}
	return t.legs[b].From == t.legs[a].To && t.legs[b].Dep >= ready
}

func (t timetable) isChange(a, b int) bool {
	return t.legs[a].Line != t.legs[b].Line
}

// begins reports whether a journey that is wished for can begin with the leg.
func (w wish) begins(leg api.Leg) bool {
	return leg.From == w.from && leg.Dep >= w.at
}

// ends reports whether a journey that is wished for can end with the leg.
func (w wish) ends(leg api.Leg) bool {
	return leg.To == w.to && leg.Arr <= w.by
}

// arrival returns when the leg comes, as the last one of a journey.
func (w wish) arrival(leg api.Leg) int {
	if w.ends(leg) {
		return leg.Arr
	}
	return never
}

// count returns how many legs the leg is, as the last one of a journey.
func (w wish) count(leg api.Leg) int {
	if w.ends(leg) {
		return 1
	}
	return never
}

// isJourney reports whether these are the legs of a journey that is wished for.
func (t timetable) isJourney(w wish, journey []int) bool {
	if len(journey) == 0 {
		return w.from == w.to && w.at <= w.by
	}
	for i, leg := range journey {
		if !isWithin(leg, 0, len(t.legs)-1) || i > 0 && !t.follows(journey[i-1], leg) {
			return false
		}
	}
	return w.begins(t.legs[journey[0]]) && w.ends(t.legs[journey[len(journey)-1]])
}
