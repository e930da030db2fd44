package route_test

import (
	"math/rand/v2"
	"slices"
	"testing"

	"cocket/api"
	"cocket/route"
)

func TestP8_6Journeys(t *testing.T) {
	many(3000, all(), func(r *rand.Rand, tt table) {
		from, to := tt.places(r)
		at := tt.time(r)
		arr, journey, e := tt.earliest(from, to, at)
		if e == api.ErrPlan {
			return
		}
		wantsOK(t, "Earliest", e)
		if is, e := tt.is(from, to, at, journey...); !is || e != api.OK || len(journey) > 0 && tt.legs[journey[len(journey)-1]].Arr != arr {
			t.Fatalf("Earliest from %d to %d at %d: %d by %v; Is: %v, error %d; %v", from, to, at, arr, journey, is, e, tt)
		}
		dep, journey, e := tt.latest(from, to, arr)
		wantsOK(t, "Latest", e)
		if dep < at {
			t.Fatalf("Latest from %d to %d by %d: %d, though Earliest at %d is that; %v", from, to, arr, dep, at, tt)
		}
		is, e := tt.is(from, to, dep, journey...)
		if !is || e != api.OK || len(journey) > 0 && (tt.legs[journey[0]].Dep != dep || tt.legs[journey[len(journey)-1]].Arr > arr) {
			t.Fatalf("Latest from %d to %d by %d: %d by %v; Is: %v, error %d; %v", from, to, arr, dep, journey, is, e, tt)
		}
		if again, _, e := tt.earliest(from, to, dep); again != arr || e != api.OK {
			t.Fatalf("Earliest from %d to %d at %d: %d, error %d; want %d; %v", from, to, dep, again, e, arr, tt)
		}
	})
}

// Of timetables with too many journeys to list: by what can be reached.
func TestP8_6NoneEarlier(t *testing.T) {
	found := 0
	many(1500, big(), func(r *rand.Rand, tt table) {
		from, to := tt.places(r)
		if from == to {
			return
		}
		at := tt.time(r)
		want, can := tt.quickEarliest(from, to, at)
		arr, _, e := tt.earliest(from, to, at)
		if arr != want || can != (e == api.OK) || !can && e != api.ErrPlan {
			t.Fatalf("Earliest from %d to %d at %d: %d, error %d; want %d; %v", from, to, at, arr, e, want, tt)
		}
		if can {
			found++
		}
		turned, can := tt.turned().quickEarliest(to, from, 10000-at)
		dep, _, e := tt.latest(from, to, at)
		if can && dep != 10000-turned || can != (e == api.OK) || !can && e != api.ErrPlan {
			t.Fatalf("Latest from %d to %d by %d: %d, error %d; want %d; %v", from, to, at, dep, e, 10000-turned, tt)
		}
	})
	if found < 300 {
		t.Errorf("only %d journeys", found)
	}
}

// lookOf is Look of a profile, or -1 if there is none.
func lookOf(t *testing.T, profile []api.Stop, at int) int {
	t.Helper()
	arr, e := route.Look(profile, at)
	if e == api.ErrPlan {
		return -1
	}
	wantsOK(t, "Look", e)
	return arr
}

// earliestOf is Earliest, or -1 if there is none.
func earliestOf(t *testing.T, tt table, from, to, at int) int {
	t.Helper()
	arr, _, e := tt.earliest(from, to, at)
	if e == api.ErrPlan {
		return -1
	}
	wantsOK(t, "Earliest", e)
	return arr
}

func TestP8_7Profiles(t *testing.T) {
	many(300, all(), func(r *rand.Rand, tt table) {
		from, to := tt.places(r)
		if from == to {
			return
		}
		profile, e := tt.profile(from, to)
		wantsOK(t, "Profile", e)
		times := []int{0, 1, 10000}
		for _, l := range tt.legs {
			times = append(times, max(l.Dep-1, 0), l.Dep, l.Dep+1, l.Arr)
		}
		slices.Sort(times)
		last := 0
		for _, at := range times {
			got, want := lookOf(t, profile, at), earliestOf(t, tt, from, to, at)
			if got != want {
				t.Fatalf("Look of Profile from %d to %d at %d: %d; Earliest: %d; %v", from, to, at, got, want, tt)
			}
			if got >= 0 && got < last || got >= 0 && last < 0 {
				t.Fatalf("Look of Profile from %d to %d at %d: %d, and earlier it was %d; %v", from, to, at, got, last, tt)
			}
			last = got
		}
	})
}

func TestP8_7EveryTime(t *testing.T) {
	r := rand.New(rand.NewPCG(8, 70))
	tt := wide().table(r)
	profile, e := tt.profile(0, 1)
	wantsOK(t, "Profile", e)
	for at := range 10001 {
		if got, want := lookOf(t, profile, at), earliestOf(t, tt, 0, 1, at); got != want {
			t.Fatalf("Look of Profile at %d: %d; Earliest: %d; %v", at, got, want, tt)
		}
	}
}

func TestP8_8ByWayOf(t *testing.T) {
	later := 0
	many(1500, all(), func(r *rand.Rand, tt table) {
		a, b, c := r.IntN(tt.n), r.IntN(tt.n), r.IntN(tt.n)
		first, e := tt.profile(a, b)
		wantsOK(t, "Profile", e)
		second, e := tt.profile(b, c)
		wantsOK(t, "Profile", e)
		both, e := route.Then(first, second, tt.change)
		wantsOK(t, "Then", e)
		at := tt.time(r)
		by, direct := lookOf(t, both, at), earliestOf(t, tt, a, c, at)
		if by >= 0 && (direct < 0 || direct > by) {
			t.Fatalf("from %d by %d to %d at %d: %d, and Earliest %d; %v", a, b, c, at, by, direct, tt)
		}
		if by >= 0 {
			later++
		}
	})
	if later < 200 {
		t.Errorf("only %d journeys", later)
	}
}

func mustThen(t *testing.T, a, b []api.Stop, wait int) []api.Stop {
	t.Helper()
	list, e := route.Then(a, b, wait)
	wantsOK(t, "Then", e)
	return list
}

func TestP8_8Associative(t *testing.T) {
	r := rand.New(rand.NewPCG(8, 80))
	some := 0
	for range 4000 {
		times := []int{20, 100, 10000, 20000}[r.IntN(4)]
		a, b, c := stops(r, r.IntN(60), times), stops(r, r.IntN(60), times), stops(r, r.IntN(60), times)
		wait := r.IntN(min(times/5, 100) + 1)
		left := mustThen(t, mustThen(t, a, b, wait), c, wait)
		right := mustThen(t, a, mustThen(t, b, c, wait), wait)
		if !slices.Equal(left, right) {
			t.Fatalf("Then of %v, %v and %v, wait %d: %v or %v", a, b, c, wait, left, right)
		}
		some += len(left)
	}
	if some < 1000 {
		t.Errorf("only %d points", some)
	}
}

func TestP8_9Turned(t *testing.T) {
	many(2000, all(), func(r *rand.Rand, tt table) {
		from, to := tt.places(r)
		by := tt.time(r)
		dep, journey, e := tt.latest(from, to, by)
		arr, turned, turnedE := tt.turned().earliest(to, from, 10000-by)
		if e != turnedE || e == api.OK && (dep != 10000-arr || len(journey) != len(turned)) {
			t.Fatalf("Latest from %d to %d by %d: %d by %v, error %d; turned %d by %v, error %d; %v", from, to, by, dep, journey, e, arr, turned, turnedE, tt)
		}
		slices.Reverse(turned)
		if e != api.OK || from == to {
			return
		}
		if is, e := tt.is(from, to, dep, turned...); !is || e != api.OK {
			t.Fatalf("%v, turned around, is no journey from %d to %d; %v", turned, from, to, tt)
		}
	})
}

func TestP8_10More(t *testing.T) {
	earlier, later := 0, 0
	many(5000, all(), func(r *rand.Rand, tt table) {
		from, to := tt.places(r)
		at := tt.time(r)
		before := earliestOf(t, tt, from, to, at)
		if len(tt.legs) < 60 {
			more := tt
			more.legs = slices.Insert(slices.Clone(tt.legs), r.IntN(len(tt.legs)+1), small().leg(r, tt.n))
			after := earliestOf(t, more, from, to, at)
			if before >= 0 && (after < 0 || after > before) {
				t.Fatalf("Earliest from %d to %d at %d: %d, and with another leg %d; %v", from, to, at, before, after, tt)
			}
			if before != after {
				earlier++
			}
		}
		longer := tt
		longer.change = tt.change + r.IntN(101-tt.change)
		after := earliestOf(t, longer, from, to, at)
		if after >= 0 && (before < 0 || after < before) {
			t.Fatalf("Earliest from %d to %d at %d: %d, and with change %d %d; %v", from, to, at, before, longer.change, after, tt)
		}
		if before != after {
			later++
		}
	})
	if earlier < 20 || later < 50 {
		t.Errorf("only %d came earlier, and %d later", earlier, later)
	}
}

func TestP8_11Menger(t *testing.T) {
	seen := map[int]int{}
	many(1500, all(), func(r *rand.Rand, tt table) {
		from, to := tt.places(r)
		if from == to {
			return
		}
		at, by := tt.time(r), tt.time(r)
		if r.IntN(2) == 0 {
			at, by = 0, 10000
		}
		apart, e := tt.apart(from, to, at, by)
		needed, neededE := tt.needed(from, to, at, by)
		if e != neededE || e != api.OK && e != api.ErrPlan {
			t.Fatalf("Apart from %d to %d, %d to %d: error %d; Needed: error %d; %v", from, to, at, by, e, neededE, tt)
		}
		if e == api.OK && (apart == 1) != (len(needed) > 0) {
			t.Fatalf("Apart from %d to %d, %d to %d: %d; Needed: %v; %v", from, to, at, by, apart, needed, tt)
		}
		if want := tt.quickApart(from, to, at, by); apart != want {
			t.Fatalf("Apart from %d to %d, %d to %d: %d; want %d; %v", from, to, at, by, apart, want, tt)
		}
		seen[apart]++
	})
	if seen[0] < 100 || seen[1] < 100 || seen[2] < 50 || len(seen) < 8 {
		t.Errorf("so often so many are apart: %v", seen)
	}
}

// What is needed is what none comes without; what is not needed one comes without.
func TestP8_11NeededOfBig(t *testing.T) {
	count := 0
	many(1200, big(), func(r *rand.Rand, tt table) {
		from, to := tt.places(r)
		if from == to {
			return
		}
		at, by := tt.time(r), 10000
		if arr, found := tt.quickEarliest(from, to, at); found {
			by = min(arr+r.IntN(30), 10000)
		}
		needed, e := tt.needed(from, to, at, by)
		if e == api.ErrPlan {
			return
		}
		wantsOK(t, "Needed", e)
		count += len(needed)
		for i := range tt.legs {
			without := tt
			without.legs = slices.Delete(slices.Clone(tt.legs), i, i+1)
			arr, found := without.quickEarliest(from, to, at)
			if slices.Contains(needed, i) == (found && arr <= by) {
				t.Fatalf("Needed from %d to %d, %d to %d: %v; without leg %d: %d, %v; %v", from, to, at, by, needed, i, arr, found, tt)
			}
		}
	})
	if count < 200 {
		t.Errorf("only %d legs were needed", count)
	}
}
