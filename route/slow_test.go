package route_test

import (
	"cmp"
	"slices"

	"cocket/api"
)

// canFollow says in the chapter's words whether leg b may come next after leg a.
func (t table) canFollow(a, b int) bool {
	last, next := t.legs[a], t.legs[b]
	if next.From != last.To {
		return false
	}
	if next.Line == last.Line {
		return next.Dep >= last.Arr
	}
	return next.Dep >= last.Arr+t.change
}

// ride is a journey with at least one leg.
type ride struct {
	dep, arr, changes int
	legs              []int
}

// rides lists all journeys of at least one leg.
func (t table) rides(from, to int) []ride {
	var list []ride
	var follow func(r ride)
	follow = func(r ride) {
		last := r.legs[len(r.legs)-1]
		if t.legs[last].To == to {
			list = append(list, r)
		}
		for next, l := range t.legs {
			if t.canFollow(last, next) {
				longer := ride{r.dep, l.Arr, r.changes, append(slices.Clone(r.legs), next)}
				if l.Line != t.legs[last].Line {
					longer.changes++
				}
				follow(longer)
			}
		}
	}
	for i, l := range t.legs {
		if l.From == from {
			follow(ride{l.Dep, l.Arr, 0, []int{i}})
		}
	}
	return list
}

// journeys lists all journeys that are not earlier than at and come not later than by.
func (t table) journeys(from, to, at, by int) []ride {
	var list []ride
	if from == to && at <= by {
		list = append(list, ride{dep: by, arr: at})
	}
	for _, r := range t.rides(from, to) {
		if r.dep >= at && r.arr <= by {
			list = append(list, r)
		}
	}
	return list
}

// shorter puts journeys with fewer legs first, and those with as many in lexicographic order.
func shorter(a, b ride) int {
	return cmp.Or(len(a.legs)-len(b.legs), slices.Compare(a.legs, b.legs))
}

func (t table) slowEarliest(from, to, at int) (int, []int, api.Errno) {
	list := t.journeys(from, to, at, 10000)
	if len(list) == 0 {
		return 0, nil, api.ErrPlan
	}
	r := slices.MinFunc(list, func(a, b ride) int { return cmp.Or(a.arr-b.arr, shorter(a, b)) })
	return r.arr, r.legs, api.OK
}

func (t table) slowLatest(from, to, by int) (int, []int, api.Errno) {
	list := t.journeys(from, to, 0, by)
	if len(list) == 0 {
		return 0, nil, api.ErrPlan
	}
	r := slices.MinFunc(list, func(a, b ride) int { return cmp.Or(b.dep-a.dep, shorter(a, b)) })
	return r.dep, r.legs, api.OK
}

func (t table) slowIs(from, to, at int, journey []int) bool {
	return slices.ContainsFunc(t.journeys(from, to, at, 10000), func(r ride) bool { return slices.Equal(r.legs, journey) })
}

// slowBest returns the points of which none is as good as another one, in the chapter's words.
func slowBest(points []api.Stop) []api.Stop {
	var list []api.Stop
	for _, p := range points {
		if !slices.ContainsFunc(points, func(q api.Stop) bool { return q != p && q.Dep >= p.Dep && q.Arr <= p.Arr }) {
			list = append(list, p)
		}
	}
	slices.SortFunc(list, func(a, b api.Stop) int { return a.Dep - b.Dep })
	return slices.Compact(list)
}

func (t table) slowProfile(from, to int) []api.Stop {
	if from == to {
		return nil
	}
	var points []api.Stop
	for _, r := range t.rides(from, to) {
		points = append(points, api.Stop{Dep: r.dep, Arr: r.arr})
	}
	return slowBest(points)
}

// slowLook asks for one time after the other.
func slowLook(profile []api.Stop, at int) (int, api.Errno) {
	for _, p := range profile {
		if p.Dep >= at {
			return p.Arr, api.OK
		}
	}
	return 0, api.ErrPlan
}

func slowThen(a, b []api.Stop, wait int) []api.Stop {
	var points []api.Stop
	for _, p := range a {
		if arr, e := slowLook(b, p.Arr+wait); e == api.OK {
			points = append(points, api.Stop{Dep: p.Dep, Arr: arr})
		}
	}
	return slowBest(points)
}

func (t table) slowTrips(from, to, at int) []api.Trip {
	var all, list []api.Trip
	for _, r := range t.journeys(from, to, at, 10000) {
		all = append(all, api.Trip{Changes: r.changes, Arr: r.arr})
	}
	for _, p := range all {
		if !slices.ContainsFunc(all, func(q api.Trip) bool { return q != p && q.Changes <= p.Changes && q.Arr <= p.Arr }) {
			list = append(list, p)
		}
	}
	slices.SortFunc(list, func(a, b api.Trip) int { return a.Changes - b.Changes })
	return slices.Compact(list)
}

func (t table) slowNeeded(from, to, at, by int) ([]int, api.Errno) {
	list := t.journeys(from, to, at, by)
	if len(list) == 0 {
		return nil, api.ErrPlan
	}
	var needed []int
	for i := range t.legs {
		if !slices.ContainsFunc(list, func(r ride) bool { return !slices.Contains(r.legs, i) }) {
			needed = append(needed, i)
		}
	}
	return needed, api.OK
}

// slowApart tries, for each set of legs, whether its first leg is in none of the journeys, or in which.
func (t table) slowApart(from, to, at, by int) (int, api.Errno) {
	list := t.journeys(from, to, at, by)
	if len(list) == 0 {
		return 0, api.ErrPlan
	}
	if from == to {
		return 0, api.OK
	}
	var sets []int
	for _, r := range list {
		set := 0
		for _, i := range r.legs {
			set |= 1 << i
		}
		sets = append(sets, set)
	}
	most := make([]int, 1<<len(t.legs))
	for free := 1; free < len(most); free++ {
		first := free & -free
		most[free] = most[free^first]
		for _, set := range sets {
			if set&first != 0 && set&^free == 0 {
				most[free] = max(most[free], 1+most[free&^set])
			}
		}
	}
	return most[len(most)-1], api.OK
}

// reached tells, going forward, which legs journeys from a place can have that are not earlier than at.
func (t table) reached(from, at int) []bool {
	can := make([]bool, len(t.legs))
	var work []int
	for i, l := range t.legs {
		if l.From == from && l.Dep >= at {
			can[i] = true
			work = append(work, i)
		}
	}
	for len(work) > 0 {
		i := work[0]
		work = work[1:]
		for j := range t.legs {
			if t.canFollow(i, j) && !can[j] {
				can[j] = true
				work = append(work, j)
			}
		}
	}
	return can
}

// quickEarliest is the time of the earliest journey with a leg, also of a timetable with too many journeys to list, or false.
func (t table) quickEarliest(from, to, at int) (int, bool) {
	best, found := 0, false
	for i, can := range t.reached(from, at) {
		if l := t.legs[i]; can && l.To == to && (!found || l.Arr < best) {
			best, found = l.Arr, true
		}
	}
	return best, found
}

// quickTrips is Trips of two different places: it finds what can be reached with no change, with one, and so on.
func (t table) quickTrips(from, to, at int) []api.Trip {
	can := make([]bool, len(t.legs))
	for i, l := range t.legs {
		can[i] = l.From == from && l.Dep >= at
	}
	var list []api.Trip
	for changes := range 61 {
		for range t.legs { // as far as one comes without another change
			for i := range t.legs {
				for j := range t.legs {
					can[j] = can[j] || can[i] && t.legs[i].Line == t.legs[j].Line && t.canFollow(i, j)
				}
			}
		}
		more := slices.Clone(can)
		for i, l := range t.legs {
			if can[i] && l.To == to && (len(list) == 0 || l.Arr < list[len(list)-1].Arr) {
				list = append(slices.DeleteFunc(list, func(p api.Trip) bool { return p.Changes == changes }), api.Trip{Changes: changes, Arr: l.Arr})
			}
			for j := range t.legs {
				more[j] = more[j] || can[i] && t.canFollow(i, j)
			}
		}
		if slices.Equal(more, can) {
			break
		}
		can = more
	}
	return list
}

// quickApart is Apart of two different places by way of a matching (Ingleton and Piff): each leg that is neither a first nor a last one is matched to itself if it is in none of the journeys, and otherwise to the next one. A leg that is both is a journey.
func (t table) quickApart(from, to, at, by int) int {
	isFirst := func(i int) bool { return t.legs[i].From == from && t.legs[i].Dep >= at }
	isLast := func(i int) bool { return t.legs[i].To == to && t.legs[i].Arr <= by }
	count, between := 0, 0
	for i := range t.legs {
		if isFirst(i) && isLast(i) {
			count++
		} else if !isFirst(i) && !isLast(i) {
			between++
		}
	}
	owner := map[int]int{}
	var match func(i int, seen map[int]bool) bool
	match = func(i int, seen map[int]bool) bool {
		for j := range t.legs {
			if isFirst(j) || seen[j] || i != j && !t.canFollow(i, j) {
				continue
			}
			seen[j] = true
			other, taken := owner[j]
			if !taken || match(other, seen) {
				owner[j] = i
				return true
			}
		}
		return false
	}
	matched := 0
	for i := range t.legs {
		if !isLast(i) && match(i, map[int]bool{}) {
			matched++
		}
	}
	return count + matched - between
}
