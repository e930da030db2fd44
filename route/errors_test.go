package route_test

import (
	"fmt"
	"math"
	"math/rand/v2"
	"slices"
	"sync"
	"testing"
	"time"

	"cocket/api"
	"cocket/route"
)

// outcome is an error, and whether every other result was its zero value.
type outcome struct {
	e    api.Errno
	zero bool
	all  string // the results, to be compared
}

// question is where journeys go, and when.
type question struct{ from, to, at, by int }

// calls makes a call of each function with a timetable: of each, what it does not ask for is left out.
func calls(t table, q question) map[string]outcome {
	all := map[string]outcome{}
	arr, journey, e := t.earliest(q.from, q.to, q.at)
	all["Earliest"] = outcome{e, arr == 0 && len(journey) == 0, fmt.Sprint(arr, journey)}
	is, e := t.is(q.from, q.to, q.at, journey...)
	all["Is"] = outcome{e, !is, fmt.Sprint(is)}
	dep, journey, e := t.latest(q.from, q.to, q.by)
	all["Latest"] = outcome{e, dep == 0 && len(journey) == 0, fmt.Sprint(dep, journey)}
	profile, e := t.profile(q.from, q.to)
	all["Profile"] = outcome{e, len(profile) == 0, fmt.Sprint(profile)}
	trips, e := t.trips(q.from, q.to, q.at)
	all["Trips"] = outcome{e, len(trips) == 0, fmt.Sprint(trips)}
	needed, e := t.needed(q.from, q.to, q.at, q.by)
	all["Needed"] = outcome{e, len(needed) == 0, fmt.Sprint(needed)}
	apart, e := t.apart(q.from, q.to, q.at, q.by)
	all["Apart"] = outcome{e, apart == 0, fmt.Sprint(apart)}
	return all
}

// wantsErrors fails if one of these functions (all, if none is named) does not return this error.
func wantsErrors(t *testing.T, tt table, q question, want api.Errno, names ...string) {
	t.Helper()
	for name, got := range calls(tt, q) {
		if len(names) > 0 && !slices.Contains(names, name) {
			continue
		}
		if got.e != want || !got.zero {
			t.Errorf("%s of %d places, %d legs, change %d, %v: error %d, %s; want error %d", name, tt.n, len(tt.legs), tt.change, q, got.e, got.all, want)
		}
	}
}

// wantsNone fails if one of the functions returns an error of the arguments.
func wantsNone(t *testing.T, tt table, q question) {
	t.Helper()
	for name, got := range calls(tt, q) {
		if got.e != api.OK && got.e != api.ErrPlan {
			t.Errorf("%s of %v, %v: error %d", name, tt, q, got.e)
		}
	}
}

// extremes are ints that are never within limits.
var extremes = []int{-1, math.MinInt, math.MaxInt, -1 << 32, 1 << 32, 1<<32 + 1}

// badLegs are not valid in a timetable of 3 places.
func badLegs() []api.Leg {
	list := []api.Leg{leg(0, 0, 1, 2, 0), leg(2, 2, 1, 2, 0), leg(0, 3, 1, 2, 0), leg(3, 0, 1, 2, 0), leg(0, 1, 5, 5, 0), leg(0, 1, 5, 4, 0), leg(0, 1, 9999, 10001, 0), leg(0, 1, 10000, 10000, 0), leg(0, 1, 1, 2, 21)}
	for _, n := range extremes {
		list = append(list, leg(n, 0, 1, 2, 0), leg(0, n, 1, 2, 0), leg(n, n, 1, 2, 0), leg(0, 1, n, 2, 0), leg(0, 1, 1, n, 0), leg(0, 1, n, n, 0), leg(0, 1, 1, 2, n))
	}
	return append(list, leg(0, 1, math.MinInt, math.MaxInt, 0))
}

func TestP8_1BadPlaces(t *testing.T) {
	many61 := slices.Repeat([]api.Leg{leg(0, 1, 1, 2, 0)}, 61)
	for _, n := range append([]int{0, 9}, extremes...) {
		wantsErrors(t, of(n, 0), question{0, 0, 0, 0}, api.ErrArg)
		wantsErrors(t, of(n, 0, leg(0, 1, 1, 2, 0)), question{0, 1, 0, 10}, api.ErrArg)
		wantsErrors(t, of(n, 0, many61...), question{0, 1, 0, 10}, api.ErrArg)
	}
}

// The list of legs is counted before what is in it, and what comes after it.
func TestP8_1TooManyLegs(t *testing.T) {
	for _, count := range []int{61, 1 << 20} {
		for _, l := range []api.Leg{leg(0, 1, 1, 2, 0), {}, leg(-1, 9, 3, 2, 99)} {
			legs := slices.Repeat([]api.Leg{l}, count)
			wantsErrors(t, of(3, 0, legs...), question{0, 1, 0, 10}, api.ErrLimit)
			wantsErrors(t, of(3, -1, legs...), question{-1, 3, -1, -1}, api.ErrLimit)
		}
	}
}

func TestP8_1BadLegs(t *testing.T) {
	good := leg(0, 1, 1, 2, 0)
	for _, bad := range badLegs() {
		for _, legs := range [][]api.Leg{{bad}, {good, bad}, {bad, good}, append(slices.Repeat([]api.Leg{good}, 59), bad)} {
			wantsErrors(t, of(3, 0, legs...), question{0, 1, 0, 10}, api.ErrArg)
			wantsErrors(t, of(3, 0, legs...), question{2, 2, 0, 10}, api.ErrArg)
		}
	}
	wantsErrors(t, of(1, 0, leg(0, 1, 1, 2, 0)), question{0, 0, 0, 10}, api.ErrArg)
	wantsErrors(t, of(1, 0, leg(0, 0, 1, 2, 0)), question{0, 0, 0, 10}, api.ErrArg)
}

func TestP8_1BadQuestions(t *testing.T) {
	tt := example(2)
	for _, change := range append([]int{101}, extremes...) {
		wantsErrors(t, of(3, change, tt.legs...), question{0, 2, 0, 100}, api.ErrArg)
		wantsErrors(t, of(3, change, tt.legs...), question{1, 1, 0, 100}, api.ErrArg)
	}
	for _, place := range append([]int{3}, extremes...) {
		for _, q := range []question{{place, 0, 0, 100}, {0, place, 0, 100}, {place, place, 0, 100}} {
			wantsErrors(t, tt, q, api.ErrArg)
		}
	}
	for _, time := range append([]int{10001}, extremes...) {
		for _, places := range [][2]int{{0, 2}, {1, 1}, {2, 0}} {
			wantsErrors(t, tt, question{places[0], places[1], time, 100}, api.ErrArg, "Earliest", "Is", "Trips", "Needed", "Apart")
			wantsErrors(t, tt, question{places[0], places[1], 0, time}, api.ErrArg, "Latest", "Needed", "Apart")
		}
	}
}

// All is right up to the limits.
func TestP8_1Limits(t *testing.T) {
	tt := of(8, 100, slices.Repeat([]api.Leg{leg(7, 0, 0, 10000, 20), leg(0, 7, 9999, 10000, 0)}, 30)...)
	for _, q := range []question{{7, 0, 0, 10000}, {0, 7, 10000, 0}, {7, 7, 10000, 10000}, {3, 3, 0, 0}} {
		wantsNone(t, tt, q)
	}
	time, journey, e := tt.earliest(7, 0, 0)
	wantsJourney(t, "Earliest", time, journey, e, 10000, 0)
	time, journey, e = tt.latest(0, 7, 10000)
	wantsJourney(t, "Latest", time, journey, e, 9999, 1)
	apart, e := tt.apart(0, 7, 0, 10000)
	wantsNumber(t, "Apart", apart, e, 30)
	wantsNone(t, of(1, 0), question{0, 0, 0, 0})
	wantsNone(t, of(8, 0), question{0, 7, 0, 0})
}

// badProfiles are none.
func badProfiles() [][]api.Stop {
	list := [][]api.Stop{
		{{Dep: 5, Arr: 5}}, {{Dep: 5, Arr: 4}}, {{Dep: 19999, Arr: 20001}}, {{Dep: 20000, Arr: 20000}}, {{Dep: 20000, Arr: 20001}}, {{}},
		{{Dep: 1, Arr: 5}, {Dep: 1, Arr: 6}}, {{Dep: 1, Arr: 5}, {Dep: 2, Arr: 5}}, {{Dep: 1, Arr: 5}, {Dep: 1, Arr: 5}},
		{{Dep: 2, Arr: 5}, {Dep: 1, Arr: 6}}, {{Dep: 1, Arr: 5}, {Dep: 2, Arr: 4}}, {{Dep: 2, Arr: 6}, {Dep: 1, Arr: 5}},
		{{Dep: 0, Arr: 5}, {Dep: 1, Arr: 6}, {Dep: 2, Arr: 6}}, {{Dep: -1, Arr: 5}, {Dep: 1, Arr: 6}},
		ladder(1001), make([]api.Stop, 1<<20),
	}
	for _, n := range extremes {
		list = append(list, []api.Stop{{Dep: n, Arr: 5}}, []api.Stop{{Dep: 5, Arr: n}}, []api.Stop{{Dep: 1, Arr: 2}, {Dep: 5, Arr: n}}, []api.Stop{{Dep: 1, Arr: 2}, {Dep: n, Arr: 3}})
	}
	return append(list, []api.Stop{{Dep: math.MinInt, Arr: math.MaxInt}})
}

func TestP8_2BadProfiles(t *testing.T) {
	for i, bad := range badProfiles() {
		for _, at := range []int{0, 1, 20000, -1} {
			if got, e := route.Look(bad, at); got != 0 || e != api.ErrArg {
				t.Errorf("Look of bad profile %d at %d: %d, error %d", i, at, got, e)
			}
		}
		for _, good := range [][]api.Stop{nil, {{Dep: 1, Arr: 2}}, bad} {
			for _, pair := range [][2][]api.Stop{{good, bad}, {bad, good}} {
				if got, e := route.Then(pair[0], pair[1], 0); len(got) > 0 || e != api.ErrArg {
					t.Errorf("Then of bad profile %d: %v, error %d", i, got, e)
				}
			}
		}
	}
	if got, e := route.Look(ladder(1000), 999*19); got != 999*19+1 || e != api.OK {
		t.Errorf("Look of 1000 points: %d, error %d", got, e)
	}
}

func TestP8_2BadTimes(t *testing.T) {
	profile := []api.Stop{{Dep: 1, Arr: 2}, {Dep: 19999, Arr: 20000}}
	for _, n := range append([]int{20001}, extremes...) {
		if got, e := route.Look(profile, n); got != 0 || e != api.ErrArg {
			t.Errorf("Look at %d: %d, error %d", n, got, e)
		}
		if got, e := route.Look(nil, n); got != 0 || e != api.ErrArg {
			t.Errorf("Look of nothing at %d: %d, error %d", n, got, e)
		}
	}
	for _, n := range append([]int{101}, extremes...) {
		if got, e := route.Then(profile, profile, n); len(got) > 0 || e != api.ErrArg {
			t.Errorf("Then with wait %d: %v, error %d", n, got, e)
		}
		if got, e := route.Then(nil, nil, n); len(got) > 0 || e != api.ErrArg {
			t.Errorf("Then of nothing with wait %d: %v, error %d", n, got, e)
		}
	}
}

// With an error every other result is its zero value.
func TestZeroWithErrors(t *testing.T) {
	seen := map[string]int{}
	many(2000, all(), func(r *rand.Rand, tt table) {
		from, to := tt.places(r)
		q := question{from, to, tt.time(r), tt.time(r)}
		for name, got := range calls(tt, q) {
			if got.e == api.OK {
				continue
			}
			seen[name]++
			if !got.zero || got.e != api.ErrPlan {
				t.Fatalf("%s of %v, %v: error %d, and %s", name, tt, q, got.e, got.all)
			}
		}
	})
	for _, name := range []string{"Earliest", "Latest", "Trips", "Needed", "Apart"} {
		if seen[name] == 0 {
			t.Errorf("%s returned no error", name)
		}
	}
	if seen["Is"] > 0 || seen["Profile"] > 0 {
		t.Errorf("errors: %v", seen)
	}
}

// layers is a timetable with the most ways: each leg can be followed by all legs of the next layer.
func layers(width int) table {
	t := table{n: 8}
	for i := range 60 {
		layer := i / width
		t.legs = append(t.legs, leg(layer%8, (layer+1)%8, layer*10, layer*10+5+i%2, i%3))
	}
	return t
}

func TestP1MostWork(t *testing.T) {
	for width := 1; width <= 60; width++ {
		tt := layers(width)
		within(t, "a timetable with layers", 20*time.Second, func() {
			for to := range 8 {
				wantsNone(t, tt, question{0, to, 0, 10000})
			}
		})
	}
	within(t, "long lists", 20*time.Second, func() {
		example(2).is(0, 2, 0, make([]int, 1<<22)...)
		route.Look(make([]api.Stop, 1<<22), 0)
		route.Then(ladder(1<<20), ladder(1<<20), 0)
	})
}

func TestP1AnyArguments(t *testing.T) {
	r := rand.New(rand.NewPCG(8, 1))
	numbers := []int{0, 0, 1, 1, 2, 2, 3, 7, 8, 20, 21, 100, 101, 9999, 10000, 10001, 20000, 20001, -1, math.MaxInt, math.MinInt}
	number := func() int { return numbers[r.IntN(len(numbers))] }
	for range 20000 {
		tt := table{n: number(), change: number()}
		for range r.IntN(4) {
			tt.legs = append(tt.legs, leg(number(), number(), number(), number(), number()))
		}
		calls(tt, question{number(), number(), number(), number()})
		tt.is(number(), number(), number(), number(), number())
		a := []api.Stop{{Dep: number(), Arr: number()}, {Dep: number(), Arr: number()}}[:r.IntN(3)]
		route.Look(a, number())
		route.Then(a, []api.Stop{{Dep: number(), Arr: number()}}, number())
	}
}

func TestP2OnlyArguments(t *testing.T) {
	many(300, all(), func(r *rand.Rand, tt table) {
		from, to := tt.places(r)
		q := question{from, to, tt.time(r), tt.time(r)}
		want := calls(tt, q)
		got := make([]map[string]outcome, 4)
		var all sync.WaitGroup
		for i := range got {
			all.Go(func() { got[i] = calls(tt, q) })
		}
		all.Wait()
		for _, again := range got {
			for name := range want {
				if again[name] != want[name] {
					t.Fatalf("%s of %v, %v: %v, and then %v", name, tt, q, want[name], again[name])
				}
			}
		}
	})
}

func TestArgumentsStay(t *testing.T) {
	many(300, all(), func(r *rand.Rand, tt table) {
		from, to := tt.places(r)
		before := slices.Clone(tt.legs)
		calls(tt, question{from, to, tt.time(r), tt.time(r)})
		calls(tt, question{from, to, 0, 10000})
		if !slices.Equal(tt.legs, before) {
			t.Fatalf("%v were %v", tt.legs, before)
		}
		a, b := stops(r, 20, 100), stops(r, 20, 100)
		beforeA, beforeB := slices.Clone(a), slices.Clone(b)
		route.Look(a, 5)
		route.Then(a, b, 5)
		if !slices.Equal(a, beforeA) || !slices.Equal(b, beforeB) {
			t.Fatalf("%v and %v were %v and %v", a, b, beforeA, beforeB)
		}
	})
	journey := []int{0, 1, 7, -1}
	example(2).is(0, 2, 0, journey...)
	if !slices.Equal(journey, []int{0, 1, 7, -1}) {
		t.Errorf("a journey is %v", journey)
	}
}

// Results are new memory: what is written into one changes neither another one nor an argument.
func TestResultsAreNew(t *testing.T) {
	tt := example(2)
	lists := func() ([][]int, [][]api.Stop, []api.Trip) {
		_, earliest, _ := tt.earliest(0, 2, 0)
		_, latest, _ := tt.latest(0, 2, 40)
		needed, _ := tt.needed(0, 2, 0, 40)
		profile, _ := tt.profile(0, 2)
		a := []api.Stop{{Dep: 1, Arr: 2}}
		then, _ := route.Then(a, a[:0], 0)
		both, _ := route.Then(a, []api.Stop{{Dep: 2, Arr: 3}}, 0)
		trips, _ := tt.trips(0, 2, 0)
		return [][]int{earliest, latest, needed}, [][]api.Stop{profile, then, both}, trips
	}
	want := fmt.Sprint(lists())
	numbers, profiles, trips := lists()
	for _, list := range numbers {
		clear(list)
		_ = append(list[:0], 9, 9, 9)
	}
	for _, list := range profiles {
		clear(list)
		_ = append(list, api.Stop{Dep: 9, Arr: 9})
	}
	clear(trips)
	if got := fmt.Sprint(lists()); got != want {
		t.Errorf("%s, and then %s", want, got)
	}
}
