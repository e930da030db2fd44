package origin_test

import (
	"fmt"
	"math"
	"math/rand/v2"
	"slices"
	"testing"
	"time"

	"cocket/api"
	"cocket/origin"
)

// outcome is an error, and whether every other result was its zero value.
type outcome struct {
	e    api.Errno
	zero bool
}

// asked makes a call of each function that is asked of a number; with other arguments that are wrong, if bad is true.
func asked(m int, things []api.Made, no int, bad bool) map[string]outcome {
	ring, sources := api.RingHave, make([]int, max(0, min(m, 6)))
	if bad {
		ring, sources = 6, []int{-2}
	}
	all := map[string]outcome{}
	terms, e := origin.Polynomial(m, things, no)
	all["Polynomial"] = outcome{e, len(terms) == 0}
	value, e := origin.Value(m, things, ring, sources, no)
	all["Value"] = outcome{e, value == 0}
	list, e := origin.Witnesses(m, things, no)
	all["Witnesses"] = outcome{e, len(list) == 0}
	list, e = origin.Needed(m, things, no)
	all["Needed"] = outcome{e, len(list) == 0}
	list, e = origin.Cheapest(m, things, sources, no)
	all["Cheapest"] = outcome{e, len(list) == 0}
	shares, e := origin.Shares(m, things, no)
	all["Shares"] = outcome{e, len(shares) == 0}
	return all
}

// calls makes a call of each function of records.
func calls(m int, things []api.Made, bad bool) map[string]outcome {
	no := 0
	if bad {
		no = -1
	}
	all := asked(m, things, no, bad)
	less, e := origin.Without(m, things, no)
	all["Without"] = outcome{e, len(less) == 0}
	return all
}

func expectAll(t *testing.T, what string, m int, things []api.Made, want api.Errno) {
	t.Helper()
	for _, bad := range []bool{false, true} {
		for name, got := range calls(m, things, bad) {
			if got.e != want || !got.zero {
				t.Errorf("%s: %s (other arguments wrong: %v): error %d, zero %v; want %d and zero values", what, name, bad, got.e, got.zero, want)
			}
		}
	}
}

// badThings are none, as the thing with the number 3.
func badThings() []api.Made {
	return []api.Made{
		made(way(3)), made(way(4)), made(way(-1)), made(way(math.MinInt)), made(way(math.MaxInt)),
		made(way(0, 1, 2, 0, 1, 3)), made(way(0), nil, way(1, -1)), made(nil, nil, nil, nil, nil, way(3)),
		made(way(0, 0, 0, 0, 0, 0, 0)), made(way(0), way(1, 1, 1, 1, 1, 1, 1)), made(make([]int, 100000)),
		made(way(0), way(0), way(0), way(0), way(0), way(0), way(0)), made(make([][]int, 7)...), made(make([][]int, 100000)...),
	}
}

// The errors that all functions of records return first, and in which order.
func TestErrorsOfAll(t *testing.T) {
	many := make([]api.Made, 21)
	for _, m := range []int{math.MinInt, -1, 0, 7, 64, math.MaxInt} {
		expectAll(t, "m", m, nil, api.ErrArg)
		expectAll(t, "m, and too many things", m, many, api.ErrArg)
		expectAll(t, "m, and a bad thing", m, []api.Made{made(way(-1))}, api.ErrArg)
	}
	expectAll(t, "too many things", 3, many, api.ErrLimit)
	expectAll(t, "too many things", 3, make([]api.Made, 100000), api.ErrLimit)
	for _, bad := range badThings() {
		expectAll(t, "a bad thing", 3, []api.Made{bad}, api.ErrArg)
		expectAll(t, "a bad thing, and a good one", 3, []api.Made{bad, made(way(0))}, api.ErrArg)
		expectAll(t, "a bad thing after good ones", 2, []api.Made{made(way(0)), bad}, api.ErrArg)
		expectAll(t, "too many things, the first one bad", 3, append([]api.Made{bad}, many...), api.ErrLimit)
	}
	expectAll(t, "a source too few", 2, example(), api.ErrArg)
	expectAll(t, "a thing of itself", 1, []api.Made{made(way(0)), made(way(2))}, api.ErrArg)
	expectAll(t, "a thing of a later one", 1, []api.Made{made(way(2)), made(way(0))}, api.ErrArg)
}

// ErrNone comes after these, and before the errors of the other arguments.
func TestErrorsOfNumbers(t *testing.T) {
	for _, no := range []int{math.MinInt, -1, 6, 7, 26, math.MaxInt} {
		for _, bad := range []bool{false, true} {
			for name, got := range asked(3, example(), no, bad) {
				if got.e != api.ErrNone || !got.zero {
					t.Errorf("%s of %d: error %d, zero %v; want ErrNone", name, no, got.e, got.zero)
				}
			}
		}
		for name, got := range asked(3, []api.Made{made(way(3))}, no, false) {
			if got.e != api.ErrArg {
				t.Errorf("%s of %d, and a bad thing: error %d", name, no, got.e)
			}
		}
	}
	for name, got := range asked(6, nil, 6, false) {
		if got.e != api.ErrNone {
			t.Errorf("%s of the first thing, but there is none: error %d", name, got.e)
		}
	}
}

// Records as large as they can be are no error.
func TestLimitsOfAll(t *testing.T) {
	for m := 1; m <= 6; m++ {
		var things []api.Made
		for i := range api.MaxThings {
			things = append(things, made(slices.Repeat([][]int{slices.Repeat([]int{m - 1}, 6)}, 5)...))
			things[i].Ways = append(things[i].Ways, []int{m + i - 1, m - 1, 0, 0, 0, m - 1})
		}
		for no := range m + len(things) {
			for name, got := range asked(m, things, no, false) {
				if got.e == api.ErrArg || got.e == api.ErrLimit || got.e == api.ErrNone {
					t.Errorf("%s of %d of %d sources: error %d", name, no, m, got.e)
				}
			}
		}
		if less, e := origin.Without(m, things, m-1); len(less) != api.MaxThings || e != api.OK {
			t.Errorf("Without of %d sources: error %d", m, e)
		}
	}
}

// otherValues are none of a ring's, for three sources.
func otherValues(ring int) []int {
	return append([]int{math.MinInt, math.MaxInt, -2}, [][]int{{-1, 2}, {-1, api.MaxTimes + 1}, {api.MaxTimes + 1}, {-1, 101}, {-1, 101}, {8, 1 << 6}}[ring]...)
}

func TestErrorsOfValues(t *testing.T) {
	expect := func(what string, ring int, sources []int) {
		t.Helper()
		for no := range 6 {
			expectValue(t, what, 3, example(), ring, sources, no, 0, api.ErrArg)
		}
		expectValue(t, what+", out of range", 3, []api.Made{made(way(3)), made(way(0))}, ring, sources, 3, 0, api.ErrArg)
		for _, terms := range [][]api.Term{nil, {term(1, 0, 0, 0)}, {term(api.MaxTimes, 30, 30, 30)}} {
			expectOf(t, what, 3, terms, ring, sources, 0, api.ErrArg)
		}
	}
	for _, ring := range everyRing {
		for _, v := range otherValues(ring) {
			for i := range 3 {
				sources := []int{0, 0, 0}
				sources[i] = v
				expect("a value of another kind", ring, sources)
			}
		}
		for _, n := range []int{0, 1, 2, 4, 6, 100000} {
			expect("too many or too few values", ring, make([]int, n))
		}
	}
	for _, ring := range []int{math.MinInt, -1, 6, math.MaxInt} {
		for _, v := range []int{-1, 0, 1} {
			expect("no ring", ring, []int{v, v, v})
		}
	}
}

// The least and greatest value of each ring, for each number of sources.
func TestValuesAtTheEnds(t *testing.T) {
	for m := 1; m <= 6; m++ {
		for ring, values := range [][]int{{0, 1}, {0, api.MaxTimes}, {-1, 0, api.MaxTimes}, {0, 100}, {0, 100}, {-1, 0, 1<<m - 1}} {
			for _, v := range values {
				sources := slices.Repeat([]int{v}, m)
				of := term(1, make([]int, m)...)
				of.Powers[m-1] = 1
				expectValue(t, "at an end", m, []api.Made{made(way(m - 1))}, ring, sources, m, v, api.OK)
				expectOf(t, "at an end", m, []api.Term{of}, ring, sources, v, api.OK)
			}
		}
		expectValue(t, "a set of more sources", m, nil, api.RingParts, slices.Repeat([]int{1 << m}, m), 0, 0, api.ErrArg)
	}
}

// badTerms are none of three sources.
func badTerms() []api.Term {
	return []api.Term{
		{}, {Times: 1}, term(1, 0, 0), term(1, 0, 0, 0, 0), {Times: 1, Powers: make([]int, 100000)},
		term(1, -1, 0, 0), term(1, 0, 31, 0), term(1, 0, 0, math.MaxInt), term(1, math.MinInt, 0, 0),
		term(0, 1, 1, 1), term(-1, 1, 1, 1), term(api.MaxTimes+1, 1, 1, 1), term(math.MaxInt, 1, 1, 1), term(math.MinInt, 1, 1, 1),
	}
}

func TestErrorsOfOf(t *testing.T) {
	good := term(1, 0, 30, 1)
	for _, ring := range everyRing {
		sources := []int{0, 1, 1}
		for _, m := range []int{math.MinInt, -1, 0, 7, math.MaxInt} {
			expectOf(t, "m", m, nil, ring, nil, 0, api.ErrArg)
			expectOf(t, "m", m, slices.Repeat([]api.Term{good}, 401), ring, sources, 0, api.ErrArg)
			expectOf(t, "m", m, []api.Term{term(1, make([]int, 7)...)}, ring, make([]int, 7), 0, api.ErrArg)
		}
		for _, bad := range badTerms() {
			expectOf(t, "a bad term", 3, []api.Term{bad}, ring, sources, 0, api.ErrArg)
			expectOf(t, "a bad term after a good one", 3, []api.Term{good, bad}, ring, sources, 0, api.ErrArg)
			expectOf(t, "a bad term before a good one", 3, []api.Term{bad, good}, ring, sources, 0, api.ErrArg)
			expectOf(t, "too many bad terms", 3, slices.Repeat([]api.Term{bad}, 401), ring, sources, 0, api.ErrLimit)
		}
		expectOf(t, "too many terms", 3, slices.Repeat([]api.Term{good}, 401), ring, sources, 0, api.ErrLimit)
		expectOf(t, "too many terms, and no values", 3, slices.Repeat([]api.Term{good}, 401), ring, nil, 0, api.ErrLimit)
	}
	expectOf(t, "too many terms, and no ring", 3, slices.Repeat([]api.Term{good}, 401), 6, nil, 0, api.ErrLimit)
	expectOf(t, "above, and a bad term", 3, []api.Term{term(2, 1, 0, 0), term(0, 0, 0, 0)}, api.RingWays, []int{api.MaxTimes, 0, 0}, 0, api.ErrArg)
}

// P1: no argument makes a function panic or go on for ever.
func TestP1AnyArguments(t *testing.T) {
	numbers := []int{math.MinInt, math.MinInt + 1, -7, -1, 0, 1, 2, 3, 5, 6, 7, 20, 25, 26, 63, 64, 1 << 40, 1<<40 + 1, math.MaxInt}
	lists := [][]int{nil, {}, {0}, {1, 1, 1}, {-1, -1, -1}, {math.MaxInt, math.MinInt, math.MaxInt}, numbers, make([]int, 100000)}
	records := [][]api.Made{nil, {}, example(), ladder(), tower(), crowd(), badThings(), make([]api.Made, 20), make([]api.Made, 100000)}
	terms := [][]api.Term{nil, {}, badTerms(), {term(1, 0, 30, 1)}, slices.Repeat([]api.Term{term(1<<40, 30, 30, 30)}, 400), make([]api.Term, 100000)}
	for _, m := range numbers {
		for _, things := range records {
			for _, no := range numbers {
				origin.Polynomial(m, things, no)
				origin.Witnesses(m, things, no)
				origin.Needed(m, things, no)
				origin.Shares(m, things, no)
				origin.Without(m, things, no)
				for _, list := range lists {
					origin.Cheapest(m, things, list, no)
					for _, ring := range numbers {
						origin.Value(m, things, ring, list, no)
					}
				}
			}
		}
		for _, list := range lists {
			for _, ring := range numbers {
				for _, some := range terms {
					origin.Of(m, some, ring, list)
				}
			}
		}
	}
}

// P1: records as large as they can be come to an end.
func TestP1MostWork(t *testing.T) {
	start := time.Now()
	many(40, wide, func(_ *rand.Rand, m int, things []api.Made) {
		for i := range things {
			for len(things[i].Ways) < 6 {
				things[i].Ways = append(things[i].Ways, nil)
			}
			for k, parts := range things[i].Ways {
				for len(parts) < 6 {
					parts = append(parts, max(0, m+i-1-k))
				}
				things[i].Ways[k] = parts
			}
		}
		for no := range m + len(things) {
			asked(m, things, no, false)
		}
	})
	// Polynomials that stay just within the limits, in all ways of all things.
	var things []api.Made
	for i := range 4 {
		things = append(things, made(nil, way(i), way(i, i), way(i, i, i)))
	}
	things = append(things, made(way(4, 5, 6)))
	for range 15 {
		things = append(things, made(slices.Repeat([][]int{{8, 0, 8, 1}}, 6)...))
	}
	for no := range 24 {
		asked(4, things, no, false)
	}
	if took := time.Since(start); took > 20*time.Second {
		t.Error(took)
	}
}

// snapshot is all that the functions say of records.
func snapshot(m int, things []api.Made, values [][]int) string {
	var all []any
	for no := range m + len(things) {
		terms, e := origin.Polynomial(m, things, no)
		all = append(all, terms, e)
		for ring, sources := range values {
			value, e := origin.Value(m, things, ring, sources, no)
			all = append(all, value, e)
			value, e = origin.Of(m, terms, ring, sources)
			all = append(all, value, e)
		}
		list, e := origin.Witnesses(m, things, no)
		all = append(all, list, e)
		list, e = origin.Needed(m, things, no)
		all = append(all, list, e)
		list, e = origin.Cheapest(m, things, values[api.RingWays], no)
		all = append(all, list, e)
		shares, e := origin.Shares(m, things, no)
		all = append(all, shares, e)
		less, e := origin.Without(m, things, no)
		all = append(all, less, e)
	}
	return fmt.Sprint(all...)
}

// P2: the same arguments have the same results, whatever was called before; and no call changes its arguments.
func TestP2OnlyArguments(t *testing.T) {
	test := func(r *rand.Rand, m int, things []api.Made) {
		var values [][]int
		for _, ring := range everyRing {
			values = append(values, randomValues(r, ring, m))
		}
		kept, keptValues := fmt.Sprint(things), fmt.Sprint(values)
		first := snapshot(m, things, values)
		snapshot(3, example(), [][]int{{1, 1, 1}, {1, 2, 3}, {1, 2, 3}, {1, 2, 3}, {1, 2, 3}, {1, 2, 3}})
		for range 3 {
			if snapshot(m, things, values) != first {
				t.Fatal("another answer to the same question", m, things, values)
			}
		}
		if fmt.Sprint(things) != kept || fmt.Sprint(values) != keptValues {
			t.Fatal("an argument was changed", m, kept)
		}
	}
	many(60, small, test)
	many(20, wide, test)
}

// What a caller does with a result changes no other result, no other part of it, and no argument.
func TestP2ResultsAreNew(t *testing.T) {
	things := append(example(), made(way(0), way(1), nil))
	values := [][]int{{1, 1, 1}, {1, 2, 3}, {1, 2, 3}, {1, 2, 3}, {1, 2, 3}, {1, 2, 3}}
	before, records := snapshot(3, things, values), fmt.Sprint(things)
	terms, _ := origin.Polynomial(3, things, 4)
	for i := range terms {
		_ = append(terms[i].Powers, 9, 9, 9)
		terms[i].Powers[0] += 100
		if sum := terms[0].Powers[0] + terms[1].Powers[0] + terms[2].Powers[0]; sum != 3+100*(i+1) {
			t.Error("terms share their memory", terms)
		}
	}
	witnesses, _ := origin.Witnesses(3, things, 4)
	witnesses[0] = 9
	needed, _ := origin.Needed(3, things, 0)
	needed[0] = 9
	cheapest, _ := origin.Cheapest(3, things, values[1], 4)
	cheapest[0] = 9
	shares, _ := origin.Shares(3, things, 4)
	shares[0] = ratio(9, 1)
	for _, no := range []int{0, 1, 2} {
		less, _ := origin.Without(3, things, no)
		for i := range less {
			for k := range less[i].Ways {
				_ = append(less[i].Ways[k], 9, 9, 9)
				for x := range less[i].Ways[k] {
					less[i].Ways[k][x] = 99
				}
				less[i].Ways[k] = nil
			}
			_ = append(less[i].Ways, nil, nil)
		}
	}
	if snapshot(3, things, values) != before || fmt.Sprint(things) != records {
		t.Error("a result was changed by another one", things)
	}
}

// What leads from a part of an argument's memory to another one is not written to.
func TestP2SharedArguments(t *testing.T) {
	memory := []int{0, 1, 2, 0, 1, 2}
	things := []api.Made{made(memory[:1], memory[:2], memory[1:2]), made(memory[:0], memory[2:3])}
	for no := range 5 {
		asked(3, things, no, false)
	}
	for source := range 3 {
		origin.Without(3, things, source)
	}
	if !slices.Equal(memory, []int{0, 1, 2, 0, 1, 2}) {
		t.Error(memory)
	}
}
