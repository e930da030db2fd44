package route_test

import (
	"fmt"
	"math/rand/v2"
	"slices"
	"testing"
	"time"

	"cocket/api"
	"cocket/route"
)

// The tests call the package only as its users do, and hold it against slow answers of their own (slow_test.go).

// table is a timetable.
type table struct {
	n      int
	legs   []api.Leg
	change int
}

// leg is from one place to another one, leaving at dep and coming at arr.
func leg(from, to, dep, arr, line int) api.Leg {
	return api.Leg{From: from, To: to, Dep: dep, Arr: arr, Line: line}
}

func of(n, change int, legs ...api.Leg) table {
	return table{n: n, legs: legs, change: change}
}

// example is the timetable of the chapter's examples.
func example(change int) table {
	return of(3, change, leg(0, 1, 10, 20, 1), leg(1, 2, 22, 30, 2), leg(1, 2, 20, 40, 1))
}

func (t table) String() string {
	return fmt.Sprintf("%d places, change %d, legs (from, to, dep, arr, line) %v", t.n, t.change, t.legs)
}

// The functions of the package, for a timetable.

func (t table) earliest(from, to, at int) (int, []int, api.Errno) {
	return route.Earliest(t.n, t.legs, t.change, from, to, at)
}

func (t table) latest(from, to, by int) (int, []int, api.Errno) {
	return route.Latest(t.n, t.legs, t.change, from, to, by)
}

func (t table) is(from, to, at int, journey ...int) (bool, api.Errno) {
	return route.Is(t.n, t.legs, t.change, from, to, at, journey)
}

func (t table) profile(from, to int) ([]api.Stop, api.Errno) {
	return route.Profile(t.n, t.legs, t.change, from, to)
}

func (t table) trips(from, to, at int) ([]api.Trip, api.Errno) {
	return route.Trips(t.n, t.legs, t.change, from, to, at)
}

func (t table) needed(from, to, at, by int) ([]int, api.Errno) {
	return route.Needed(t.n, t.legs, t.change, from, to, at, by)
}

func (t table) apart(from, to, at, by int) (int, api.Errno) {
	return route.Apart(t.n, t.legs, t.change, from, to, at, by)
}

// turned has all legs turned around.
func (t table) turned() table {
	legs := slices.Clone(t.legs)
	for i, l := range t.legs {
		legs[i] = leg(l.To, l.From, 10000-l.Arr, 10000-l.Dep, l.Line)
	}
	return table{n: t.n, legs: legs, change: t.change}
}

// kind says what random timetables are like.
type kind struct {
	places, legs, times, rides, lines, change int // at most so many places, so many legs, times up to here, rides as long, lines and time to change
	slow                                      int // every third ride takes so much longer, or a multiple
}

// small ones have few enough journeys for all of them to be listed, and many that are as good as others.
func small() kind  { return kind{places: 3, legs: 9, times: 8, rides: 3, lines: 2, change: 2} }
func middle() kind { return kind{places: 4, legs: 13, times: 20, rides: 6, lines: 3, change: 4} }

// In these it is worth it to change, as some rides take long.
func slow() kind {
	return kind{places: 4, legs: 14, times: 20, rides: 4, lines: 5, change: 1, slow: 10}
}
func slowBig() kind {
	return kind{places: 8, legs: 60, times: 150, rides: 15, lines: 9, change: 9, slow: 50}
}

func dense() kind { return kind{places: 4, legs: 60, times: 60, rides: 9, lines: 3, change: 5} }
func wide() kind  { return kind{places: 8, legs: 60, times: 10000, rides: 1500, lines: 20, change: 100} }
func large() kind { return kind{places: 8, legs: 60, times: 150, rides: 25, lines: 4, change: 9} }

func (k kind) leg(r *rand.Rand, n int) api.Leg {
	from := r.IntN(n)
	to := (from + 1 + r.IntN(n-1)) % n
	dep := r.IntN(k.times)
	ride := 1 + r.IntN(k.rides)
	if r.IntN(3) == 0 {
		ride += k.slow * r.IntN(10)
	}
	return leg(from, to, dep, min(dep+ride, 10000), r.IntN(k.lines+1))
}

// table makes a random timetable; at times some of its legs are there twice.
func (k kind) table(r *rand.Rand) table {
	t := table{n: 2 + r.IntN(k.places-1), change: r.IntN(k.change + 1)}
	count := k.legs
	if r.IntN(3) == 0 {
		count = r.IntN(k.legs + 1)
	}
	for range count {
		l := k.leg(r, t.n)
		if len(t.legs) > 0 && r.IntN(10) == 0 {
			l = t.legs[r.IntN(len(t.legs))]
		}
		t.legs = append(t.legs, l)
	}
	return t
}

// time is one that a leg leaves or comes at, or one about it.
func (t table) time(r *rand.Rand) int {
	if len(t.legs) == 0 || r.IntN(10) == 0 {
		return r.IntN(10001)
	}
	l := t.legs[r.IntN(len(t.legs))]
	time := []int{0, l.Dep, l.Arr, 10000}[r.IntN(4)] + r.IntN(3) - 1
	return max(0, min(time, 10000))
}

// places are two places, at times the same.
func (t table) places(r *rand.Rand) (int, int) {
	from := r.IntN(t.n)
	if t.n == 1 || r.IntN(12) == 0 {
		return from, from
	}
	return from, (from + 1 + r.IntN(t.n-1)) % t.n
}

// many makes random timetables of these kinds.
func many(count int, kinds []kind, test func(*rand.Rand, table)) {
	r := rand.New(rand.NewPCG(8, uint64(count)))
	for i := range count {
		test(r, kinds[i%len(kinds)].table(r))
	}
}

func listed() []kind { return []kind{small(), middle(), slow()} }
func big() []kind    { return []kind{dense(), wide(), large(), slowBig()} }
func all() []kind    { return append(listed(), big()...) }

// stops makes a random profile with times up to one.
func stops(r *rand.Rand, count, times int) []api.Stop {
	var points []api.Stop
	for range count {
		dep := r.IntN(times)
		points = append(points, api.Stop{Dep: dep, Arr: dep + 1 + r.IntN(times-dep)})
	}
	return slowBest(points)
}

// ladder is a profile of so many points.
func ladder(count int) []api.Stop {
	var list []api.Stop
	for i := range count {
		list = append(list, api.Stop{Dep: i * 19, Arr: i*19 + 1})
	}
	return list
}

func isSameJourney(time int, journey []int, e api.Errno, wantTime int, wantJourney []int, want api.Errno) bool {
	return time == wantTime && slices.Equal(journey, wantJourney) && e == want
}

func wantsJourney(t *testing.T, what string, time int, journey []int, e api.Errno, wantTime int, want ...int) {
	t.Helper()
	if !isSameJourney(time, journey, e, wantTime, want, api.OK) {
		t.Errorf("%s: %d by %v, error %d; want %d by %v", what, time, journey, e, wantTime, want)
	}
}

func wantsNoJourney(t *testing.T, what string, time int, journey []int, e api.Errno) {
	t.Helper()
	if !isSameJourney(time, journey, e, 0, nil, api.ErrPlan) {
		t.Errorf("%s: %d by %v, error %d; want ErrPlan", what, time, journey, e)
	}
}

// wants fails if a list is not this one, or there was an error.
func wants[T comparable](t *testing.T, what string, got []T, e api.Errno, want ...T) {
	t.Helper()
	if !slices.Equal(got, want) || e != api.OK {
		t.Errorf("%s: %v, error %d; want %v", what, got, e, want)
	}
}

func wantsNumber(t *testing.T, what string, got int, e api.Errno, want int) {
	t.Helper()
	if got != want || e != api.OK {
		t.Errorf("%s: %d, error %d; want %d", what, got, e, want)
	}
}

func wantsOK(t *testing.T, what string, e api.Errno) {
	t.Helper()
	if e != api.OK {
		t.Fatalf("%s: error %d", what, e)
	}
}

// within fails if something does not end in time.
func within(t *testing.T, what string, limit time.Duration, f func()) {
	t.Helper()
	done := make(chan bool)
	go func() {
		defer close(done)
		f()
	}()
	select {
	case <-done:
	case <-time.After(limit):
		t.Fatalf("%s takes more than %v", what, limit)
	}
}
