package route_test

import (
	"math/rand/v2"
	"slices"
	"testing"

	"cocket/api"
	"cocket/route"
)

func TestExamples(t *testing.T) {
	time, journey, e := example(5).earliest(0, 2, 0)
	wantsJourney(t, "with change 5", time, journey, e, 40, 0, 2)
	time, journey, e = example(2).earliest(0, 2, 0)
	wantsJourney(t, "with change 2", time, journey, e, 30, 0, 1)
	profile, e := example(2).profile(0, 2)
	wants(t, "Profile", profile, e, api.Stop{Dep: 10, Arr: 30})
	trips, e := example(2).trips(0, 2, 0)
	wants(t, "Trips", trips, e, api.Trip{Changes: 0, Arr: 40}, api.Trip{Changes: 1, Arr: 30})
}

// What may follow what, to the minute.
func TestP8_1Changes(t *testing.T) {
	for _, c := range []struct {
		change, dep, line int
		can               bool
	}{
		{0, 20, 1, true}, {0, 19, 1, false}, {0, 20, 2, true}, {0, 19, 2, false},
		{5, 20, 1, true}, {5, 19, 1, false}, {5, 25, 2, true}, {5, 24, 2, false}, {5, 20, 2, false},
		{100, 20, 1, true}, {100, 120, 2, true}, {100, 119, 2, false},
	} {
		tt := of(3, c.change, leg(0, 1, 10, 20, 1), leg(1, 2, c.dep, 200, c.line))
		is, e := tt.is(0, 2, 0, 0, 1)
		if is != c.can || e != api.OK {
			t.Errorf("Is of %v: %v, error %d", tt, is, e)
		}
		if time, journey, e := tt.earliest(0, 2, 10); (e == api.OK) != c.can || c.can && time != 200 {
			t.Errorf("Earliest of %v: %d by %v, error %d", tt, time, journey, e)
		}
		if time, journey, e := tt.latest(0, 2, 200); (e == api.OK) != c.can || c.can && time != 10 {
			t.Errorf("Latest of %v: %d by %v, error %d", tt, time, journey, e)
		}
	}
}

func TestP8_1Earliest(t *testing.T) {
	tt := of(3, 5,
		leg(1, 2, 30, 50, 1), // 0
		leg(0, 1, 10, 20, 1), // 1
		leg(0, 2, 10, 50, 2), // 2: as early as 1 and then 0, with fewer legs
		leg(0, 2, 12, 50, 3), // 3
		leg(0, 2, 5, 60, 4),  // 4
	)
	time, journey, e := tt.earliest(0, 2, 0)
	wantsJourney(t, "the fewest legs", time, journey, e, 50, 2)
	time, journey, e = tt.earliest(0, 2, 10)
	wantsJourney(t, "not earlier than 10", time, journey, e, 50, 2)
	time, journey, e = tt.earliest(0, 2, 11)
	wantsJourney(t, "not earlier than 11", time, journey, e, 50, 3)
	time, journey, e = tt.earliest(0, 2, 13)
	wantsNoJourney(t, "not earlier than 13", time, journey, e)
	time, journey, e = tt.earliest(2, 0, 0)
	wantsNoJourney(t, "from 2 to 0", time, journey, e)
	time, journey, e = of(3, 5, leg(1, 2, 30, 50, 1), leg(1, 2, 30, 50, 1), leg(0, 1, 10, 30, 1), leg(0, 1, 10, 20, 1)).earliest(0, 2, 0)
	wantsJourney(t, "the least of several", time, journey, e, 50, 2, 0)
	time, journey, e = of(3, 5, leg(0, 1, 20, 30, 1), leg(1, 2, 30, 50, 2), leg(0, 1, 1, 2, 1), leg(1, 2, 30, 50, 3)).earliest(0, 2, 0)
	wantsJourney(t, "the least that can be taken", time, journey, e, 50, 2, 1)
}

// Who comes to 1 first must change there, and misses what the other one stays in.
func TestP8_1NotTheFirstAtAChange(t *testing.T) {
	tt := of(3, 5, leg(0, 1, 10, 18, 2), leg(0, 1, 10, 20, 1), leg(1, 2, 20, 30, 1), leg(1, 2, 40, 50, 2))
	time, journey, e := tt.earliest(0, 2, 0)
	wantsJourney(t, "Earliest", time, journey, e, 30, 1, 2)
	time, journey, e = tt.turned().latest(2, 0, 10000)
	wantsJourney(t, "Latest, turned", time, journey, e, 9970, 2, 1)
	trips, e := tt.trips(0, 2, 0)
	wants(t, "Trips", trips, e, api.Trip{Changes: 0, Arr: 30})
}

func TestP8_1Latest(t *testing.T) {
	tt := of(3, 5,
		leg(0, 1, 10, 20, 1), // 0
		leg(1, 2, 20, 30, 1), // 1
		leg(0, 2, 10, 50, 2), // 2: comes later than 0 and 1, with fewer legs
		leg(0, 2, 10, 45, 3), // 3
		leg(0, 1, 15, 60, 3), // 4
		leg(1, 2, 60, 99, 3), // 5
		leg(0, 2, 9, 12, 1),  // 6
	)
	time, journey, e := tt.latest(0, 2, 50)
	wantsJourney(t, "the fewest legs", time, journey, e, 10, 2)
	time, journey, e = tt.latest(0, 2, 49)
	wantsJourney(t, "not later than 49", time, journey, e, 10, 3)
	time, journey, e = tt.latest(0, 2, 44)
	wantsJourney(t, "not later than 44", time, journey, e, 10, 0, 1)
	time, journey, e = tt.latest(0, 2, 29)
	wantsJourney(t, "not later than 29", time, journey, e, 9, 6)
	time, journey, e = tt.latest(0, 2, 12)
	wantsJourney(t, "not later than 12", time, journey, e, 9, 6)
	time, journey, e = tt.latest(0, 2, 11)
	wantsNoJourney(t, "not later than 11", time, journey, e)
	time, journey, e = tt.latest(0, 2, 10000)
	wantsJourney(t, "not later than 10000", time, journey, e, 15, 4, 5)
	time, journey, e = of(3, 5, leg(1, 2, 30, 40, 1), leg(1, 2, 30, 50, 1), leg(0, 1, 10, 30, 1), leg(0, 1, 10, 20, 1)).latest(0, 2, 50)
	wantsJourney(t, "the least of several", time, journey, e, 10, 2, 0)
}

// From a place to itself one is there at once, and journeys with legs are journeys too.
func TestP8_1SamePlace(t *testing.T) {
	tt := of(3, 2, leg(0, 1, 10, 20, 1), leg(1, 0, 22, 30, 2), leg(0, 2, 30, 40, 2))
	for _, at := range []int{0, 7, 10, 10000} {
		for place := range 3 {
			time, journey, e := tt.earliest(place, place, at)
			wantsJourney(t, "Earliest", time, journey, e, at)
			time, journey, e = tt.latest(place, place, at)
			wantsJourney(t, "Latest", time, journey, e, at)
			if is, e := tt.is(place, place, at); !is || e != api.OK {
				t.Errorf("Is of no legs, at %d: %v, error %d", at, is, e)
			}
		}
	}
	for _, c := range []struct {
		from, to, at int
		journey      []int
		want         bool
	}{
		{0, 0, 10, []int{0, 1}, true}, {0, 0, 11, []int{0, 1}, false}, {0, 2, 0, []int{0, 1, 2}, true}, {0, 2, 0, []int{2}, true},
		{1, 1, 0, []int{1, 2}, false}, {1, 1, 0, []int{1, 0}, false}, {0, 1, 0, nil, false}, {0, 1, 0, []int{}, false},
	} {
		if is, e := tt.is(c.from, c.to, c.at, c.journey...); is != c.want || e != api.OK {
			t.Errorf("Is of %v from %d to %d at %d: %v, error %d", c.journey, c.from, c.to, c.at, is, e)
		}
	}
}

func TestP8_1Is(t *testing.T) {
	tt := example(2)
	for _, journey := range [][]int{{}, {0}, {1}, {2}, {1, 0}, {0, 0, 1}, {0, 1, 1}, {0, 1, 2}, {0, 3}, {3, 1}, {-1, 1}, {0, -1}, {3}, {-1}, {0, 1, 3}, {0, 1, -1}, {0, 1 << 40}, {-1 << 63}, slices.Repeat([]int{0}, 1<<20)} {
		if is, e := tt.is(0, 2, 0, journey...); is || e != api.OK {
			t.Errorf("Is of %d legs: %v, error %d", len(journey), is, e)
		}
	}
	for _, c := range []struct {
		at   int
		want bool
	}{{0, true}, {10, true}, {11, false}, {10000, false}} {
		if is, e := tt.is(0, 2, c.at, 0, 1); is != c.want || e != api.OK {
			t.Errorf("Is at %d: %v, error %d", c.at, is, e)
		}
	}
	if is, e := of(2, 0).is(0, 1, 0, 0); is || e != api.OK {
		t.Errorf("Is without legs: %v, error %d", is, e)
	}
}

// A journey can have all legs that there are.
func TestP8_1LongJourney(t *testing.T) {
	tt := of(2, 0)
	var journey []int
	for i := range 60 {
		tt.legs = append(tt.legs, leg(1-i%2, i%2, 118-2*i, 119-2*i, i%3))
		journey = append(journey, 59-i)
	}
	for _, c := range []struct {
		journey []int
		want    bool
	}{{journey, true}, {journey[:59], false}, {journey[:58], true}, {append(slices.Clone(journey), 0), false}, {append(slices.Clone(journey), 0, 1), false}} {
		if is, e := tt.is(0, 0, 0, c.journey...); is != c.want || e != api.OK {
			t.Errorf("Is of %d legs: %v, error %d", len(c.journey), is, e)
		}
	}
	tt.change = 1
	if is, e := tt.is(0, 0, 0, journey...); !is || e != api.OK {
		t.Errorf("Is, with change 1: %v, error %d", is, e)
	}
	tt.change = 2
	if is, e := tt.is(0, 0, 0, journey...); is || e != api.OK {
		t.Errorf("Is, with change 2: %v, error %d", is, e)
	}
}

func TestP8_1AllJourneys(t *testing.T) {
	many(30000, listed(), func(r *rand.Rand, tt table) {
		from, to := tt.places(r)
		at := tt.time(r)
		time, journey, e := tt.earliest(from, to, at)
		wantTime, wantJourney, want := tt.slowEarliest(from, to, at)
		if !isSameJourney(time, journey, e, wantTime, wantJourney, want) {
			t.Fatalf("Earliest from %d to %d at %d: %d by %v, error %d; want %d by %v, error %d; %v", from, to, at, time, journey, e, wantTime, wantJourney, want, tt)
		}
		time, journey, e = tt.latest(from, to, at)
		wantTime, wantJourney, want = tt.slowLatest(from, to, at)
		if !isSameJourney(time, journey, e, wantTime, wantJourney, want) {
			t.Fatalf("Latest from %d to %d by %d: %d by %v, error %d; want %d by %v, error %d; %v", from, to, at, time, journey, e, wantTime, wantJourney, want, tt)
		}
	})
}

func TestP8_1IsOfAll(t *testing.T) {
	count := 0
	many(20000, listed(), func(r *rand.Rand, tt table) {
		from, to := tt.places(r)
		at := tt.time(r)
		var journey []int
		if list := tt.rides(from, to); len(list) > 0 && r.IntN(3) > 0 {
			journey = slices.Clone(list[r.IntN(len(list))].legs)
		}
		if len(journey) > 0 && r.IntN(2) == 0 {
			journey[r.IntN(len(journey))] = r.IntN(len(tt.legs)+2) - 1
		}
		if r.IntN(6) == 0 {
			journey = append(journey, r.IntN(len(tt.legs)+2)-1)
		}
		want := tt.slowIs(from, to, at, journey)
		if want {
			count++
		}
		if is, e := tt.is(from, to, at, journey...); is != want || e != api.OK {
			t.Fatalf("Is of %v from %d to %d at %d: %v, error %d; %v", journey, from, to, at, is, e, tt)
		}
	})
	if count < 300 {
		t.Errorf("only %d were journeys", count)
	}
}

func TestP8_2Profile(t *testing.T) {
	tt := of(3, 5,
		leg(0, 1, 10, 20, 1), // goes on at 20 or at 30
		leg(0, 1, 11, 26, 2), // goes on at 31
		leg(1, 2, 20, 40, 1),
		leg(1, 2, 30, 45, 3),
		leg(1, 2, 31, 50, 3),
		leg(0, 2, 12, 50, 4), // as early as from 11, and later
		leg(0, 2, 12, 51, 4),
		leg(0, 2, 9, 40, 4), // as early as from 10, but earlier
		leg(0, 2, 10, 40, 4),
		leg(0, 2, 0, 10, 5),
		leg(2, 0, 12, 30, 5),
		leg(0, 2, 9000, 10000, 0),
	)
	for _, c := range []struct {
		from, to int
		want     []api.Stop
	}{
		{0, 2, []api.Stop{{Dep: 0, Arr: 10}, {Dep: 10, Arr: 40}, {Dep: 12, Arr: 50}, {Dep: 9000, Arr: 10000}}},
		{0, 1, []api.Stop{{Dep: 10, Arr: 20}, {Dep: 11, Arr: 26}}},
		{2, 1, nil}, {1, 0, nil}, {0, 0, nil}, {2, 2, nil},
	} {
		profile, e := tt.profile(c.from, c.to)
		wants(t, "Profile", profile, e, c.want...)
	}
	profile, e := of(1, 0).profile(0, 0)
	wants(t, "Profile of one place", profile, e)
}

func TestP8_2AllJourneys(t *testing.T) {
	many(10000, listed(), func(_ *rand.Rand, tt table) {
		for from := range tt.n {
			for to := range tt.n {
				want := tt.slowProfile(from, to)
				if profile, e := tt.profile(from, to); !slices.Equal(profile, want) || e != api.OK {
					t.Fatalf("Profile from %d to %d: %v, error %d; want %v; %v", from, to, profile, e, want, tt)
				}
			}
		}
	})
}

func TestP8_2Look(t *testing.T) {
	profile := []api.Stop{{Dep: 0, Arr: 1}, {Dep: 5, Arr: 9}, {Dep: 6, Arr: 12}, {Dep: 19999, Arr: 20000}}
	for _, c := range []struct{ at, want int }{{0, 1}, {1, 9}, {5, 9}, {6, 12}, {7, 20000}, {10001, 20000}, {19999, 20000}} {
		got, e := route.Look(profile, c.at)
		wantsNumber(t, "Look", got, e, c.want)
	}
	if got, e := route.Look(profile, 20000); got != 0 || e != api.ErrPlan {
		t.Errorf("Look at 20000: %d, error %d", got, e)
	}
	if got, e := route.Look(nil, 0); got != 0 || e != api.ErrPlan {
		t.Errorf("Look of nothing: %d, error %d", got, e)
	}
}

func TestP8_2LookAtAll(t *testing.T) {
	r := rand.New(rand.NewPCG(8, 22))
	for range 2000 {
		times := []int{10, 60, 20000}[r.IntN(3)]
		profile := stops(r, r.IntN(30), times)
		for range 20 {
			at := r.IntN(times + 1)
			want, wantE := slowLook(profile, at)
			if got, e := route.Look(profile, at); got != want || e != wantE {
				t.Fatalf("Look of %v at %d: %d, error %d; want %d, error %d", profile, at, got, e, want, wantE)
			}
		}
	}
}

func TestP8_3Then(t *testing.T) {
	a := []api.Stop{{Dep: 0, Arr: 10}, {Dep: 1, Arr: 11}, {Dep: 2, Arr: 15}, {Dep: 3, Arr: 19999}, {Dep: 4, Arr: 20000}}
	b := []api.Stop{{Dep: 10, Arr: 20}, {Dep: 13, Arr: 30}, {Dep: 14, Arr: 40}, {Dep: 19999, Arr: 20000}}
	for _, c := range []struct {
		wait int
		want []api.Stop
	}{
		{0, []api.Stop{{Dep: 0, Arr: 20}, {Dep: 1, Arr: 30}, {Dep: 3, Arr: 20000}}},
		{1, []api.Stop{{Dep: 1, Arr: 30}, {Dep: 2, Arr: 20000}}},
		{3, []api.Stop{{Dep: 0, Arr: 30}, {Dep: 1, Arr: 40}, {Dep: 2, Arr: 20000}}},
		{4, []api.Stop{{Dep: 0, Arr: 40}, {Dep: 2, Arr: 20000}}},
		{100, []api.Stop{{Dep: 2, Arr: 20000}}},
	} {
		got, e := route.Then(a, b, c.wait)
		wants(t, "Then", got, e, c.want...)
	}
	for _, lists := range [][2][]api.Stop{{a, nil}, {nil, b}, {nil, nil}, {b, {{Dep: 0, Arr: 9}}}} {
		got, e := route.Then(lists[0], lists[1], 0)
		wants(t, "Then", got, e)
	}
}

func TestP8_3AllPairs(t *testing.T) {
	r := rand.New(rand.NewPCG(8, 30))
	for range 4000 {
		times := []int{12, 60, 200, 20000}[r.IntN(4)]
		a, b, wait := stops(r, r.IntN(25), times), stops(r, r.IntN(25), times), r.IntN(min(times/4, 101))
		want := slowThen(a, b, wait)
		if got, e := route.Then(a, b, wait); !slices.Equal(got, want) || e != api.OK {
			t.Fatalf("Then of %v and %v, wait %d: %v, error %d; want %v", a, b, wait, got, e, want)
		}
	}
	for _, wait := range []int{0, 18, 19, 100} {
		got, e := route.Then(ladder(1000), ladder(1000), wait)
		wants(t, "Then of 1000 points", got, e, slowThen(ladder(1000), ladder(1000), wait)...)
	}
}

func TestP8_4Trips(t *testing.T) {
	tt := of(4, 0,
		leg(0, 3, 10, 90, 1), // 0 changes, 90
		leg(0, 3, 10, 95, 1),
		leg(0, 1, 10, 20, 1),
		leg(1, 2, 20, 30, 1), // stays
		leg(2, 3, 30, 80, 2), // 1 change, 80
		leg(1, 3, 25, 80, 3), // 1 change, 80
		leg(1, 2, 22, 28, 2), // changes
		leg(2, 3, 28, 70, 1), // 2 changes, 70
		leg(2, 0, 30, 40, 3),
		leg(0, 3, 40, 70, 1), // 2 changes, 70, and by 0
		leg(2, 3, 30, 75, 4), // 1 change, 75
		leg(3, 1, 80, 85, 2),
	)
	trips, e := tt.trips(0, 3, 0)
	wants(t, "at 0", trips, e, api.Trip{Changes: 0, Arr: 70})
	tt.legs = slices.Delete(tt.legs, 9, 10)
	trips, e = tt.trips(0, 3, 10)
	wants(t, "at 10", trips, e, api.Trip{Changes: 0, Arr: 90}, api.Trip{Changes: 1, Arr: 75}, api.Trip{Changes: 2, Arr: 70})
	if trips, e = tt.trips(0, 3, 11); len(trips) > 0 || e != api.ErrPlan {
		t.Errorf("at 11: %v, error %d", trips, e)
	}
	trips, e = tt.trips(1, 3, 21)
	wants(t, "from 1 at 21", trips, e, api.Trip{Changes: 0, Arr: 80}, api.Trip{Changes: 1, Arr: 70})
	trips, e = tt.trips(0, 0, 17)
	wants(t, "to the same place", trips, e, api.Trip{Changes: 0, Arr: 17})
}

// More changes than these are never worth it: who comes to a place again could have waited there.
func TestP8_4ManyChanges(t *testing.T) {
	tt := of(8, 5)
	var want []api.Trip
	for i := range 7 {
		tt.legs = append(tt.legs, leg(i, 7, 10*i, 1000-i, 10+i))
		want = append(want, api.Trip{Changes: i, Arr: 1000 - i})
		if i < 6 {
			tt.legs = append(tt.legs, leg(i, i+1, 10*i, 10*i+5, i))
		}
	}
	trips, e := tt.trips(0, 7, 0)
	wants(t, "Trips", trips, e, want...)
	for i := range tt.legs {
		tt.legs[i].Line = 3
	}
	trips, e = tt.trips(0, 7, 0)
	wants(t, "Trips by one line", trips, e, api.Trip{Changes: 0, Arr: 994})
}

func TestP8_4AllJourneys(t *testing.T) {
	long := 0
	many(30000, listed(), func(r *rand.Rand, tt table) {
		from, to := tt.places(r)
		at := tt.time(r) * r.IntN(2)
		want := tt.slowTrips(from, to, at)
		if len(want) > 1 {
			long++
		}
		if trips, e := tt.trips(from, to, at); !slices.Equal(trips, want) || (e == api.ErrPlan) != (len(want) == 0) || e != api.OK && e != api.ErrPlan {
			t.Fatalf("Trips from %d to %d at %d: %v, error %d; want %v; %v", from, to, at, trips, e, want, tt)
		}
	})
	if long < 200 {
		t.Errorf("only %d with several trips", long)
	}
}

func TestP8_4TripsOfBig(t *testing.T) {
	long := 0
	many(3000, big(), func(r *rand.Rand, tt table) {
		from, to := tt.places(r)
		if from == to {
			return
		}
		at := tt.time(r) * r.IntN(2)
		want := tt.quickTrips(from, to, at)
		if len(want) > 1 {
			long++
		}
		if trips, e := tt.trips(from, to, at); !slices.Equal(trips, want) || (e == api.ErrPlan) != (len(want) == 0) || e != api.OK && e != api.ErrPlan {
			t.Fatalf("Trips from %d to %d at %d: %v, error %d; want %v; %v", from, to, at, trips, e, want, tt)
		}
	})
	if long < 300 {
		t.Errorf("only %d with several trips", long)
	}
}

func TestP8_5Needed(t *testing.T) {
	tt := of(4, 0,
		leg(2, 3, 40, 50, 1), // 0
		leg(1, 2, 20, 30, 1), // 1
		leg(0, 1, 10, 20, 1), // 2
		leg(1, 2, 25, 35, 2), // 3
		leg(0, 3, 5, 60, 3),  // 4
	)
	for _, c := range []struct {
		from, to, at, by int
		want             []int
		apart            int
	}{
		{0, 3, 0, 60, nil, 2}, {0, 3, 6, 60, []int{0, 2}, 1}, {0, 3, 10, 50, []int{0, 2}, 1}, {0, 3, 0, 59, []int{0, 2}, 1},
		{1, 2, 0, 35, nil, 2}, {1, 2, 21, 35, []int{3}, 1}, {1, 2, 0, 34, []int{1}, 1}, {1, 3, 21, 100, []int{0, 3}, 1},
		{0, 0, 0, 0, nil, 0}, {3, 3, 7, 7, nil, 0}, {1, 1, 7, 10000, nil, 0},
	} {
		needed, e := tt.needed(c.from, c.to, c.at, c.by)
		wants(t, "Needed", needed, e, c.want...)
		apart, e := tt.apart(c.from, c.to, c.at, c.by)
		wantsNumber(t, "Apart", apart, e, c.apart)
	}
}

func TestP8_5NoJourney(t *testing.T) {
	tt := of(3, 0, leg(0, 1, 10, 20, 1), leg(1, 0, 30, 40, 1))
	for _, c := range [][4]int{{0, 1, 11, 20}, {0, 1, 10, 19}, {0, 1, 20, 10}, {0, 2, 0, 10000}, {0, 0, 8, 7}, {0, 0, 10000, 0}, {2, 2, 1, 0}} {
		if needed, e := tt.needed(c[0], c[1], c[2], c[3]); len(needed) > 0 || e != api.ErrPlan {
			t.Errorf("Needed of %v: %v, error %d", c, needed, e)
		}
		if apart, e := tt.apart(c[0], c[1], c[2], c[3]); apart != 0 || e != api.ErrPlan {
			t.Errorf("Apart of %v: %d, error %d", c, apart, e)
		}
	}
}

// Who takes the first journey that comes up must take a part of it back.
func TestP8_5ApartTakesBack(t *testing.T) {
	tt := of(4, 0,
		leg(0, 1, 0, 1, 0), leg(0, 2, 0, 1, 0),
		leg(1, 2, 1, 2, 0), // 2: in the first and longest journey, but not in two that are apart
		leg(1, 3, 1, 5, 0), leg(2, 3, 2, 5, 0),
	)
	apart, e := tt.apart(0, 3, 0, 9)
	wantsNumber(t, "Apart", apart, e, 2)
	tt = of(3, 100, slices.Concat(slices.Repeat([]api.Leg{leg(0, 1, 0, 10, 1)}, 29), slices.Repeat([]api.Leg{leg(1, 2, 10, 20, 1)}, 31))...)
	apart, e = tt.apart(0, 2, 0, 20)
	wantsNumber(t, "Apart of 29 and 31 legs", apart, e, 29)
	apart, e = of(2, 0, slices.Repeat([]api.Leg{leg(1, 0, 9999, 10000, 1)}, 60)...).apart(1, 0, 0, 10000)
	wantsNumber(t, "Apart of 60 legs", apart, e, 60)
}

func TestP8_5AllJourneys(t *testing.T) {
	seen := map[int]int{}
	many(20000, listed(), func(r *rand.Rand, tt table) {
		from, to := tt.places(r)
		at, by := tt.time(r), tt.time(r)
		want, wantE := tt.slowNeeded(from, to, at, by)
		if needed, e := tt.needed(from, to, at, by); !slices.Equal(needed, want) || e != wantE {
			t.Fatalf("Needed from %d to %d, %d to %d: %v, error %d; want %v, error %d; %v", from, to, at, by, needed, e, want, wantE, tt)
		}
		most, wantE := tt.slowApart(from, to, at, by)
		apart, e := tt.apart(from, to, at, by)
		if apart != most || e != wantE {
			t.Fatalf("Apart from %d to %d, %d to %d: %d, error %d; want %d, error %d; %v", from, to, at, by, apart, e, most, wantE, tt)
		}
		seen[apart]++
	})
	if seen[1] < 100 || seen[2] < 100 || seen[3] < 20 {
		t.Errorf("so often so many are apart: %v", seen)
	}
}
