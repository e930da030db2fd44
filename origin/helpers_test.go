package origin_test

import (
	"math/rand/v2"
	"slices"
	"testing"

	"cocket/api"
	"cocket/origin"
)

// The tests call the package only as its users do, and hold it against slow answers of their own (slow_test.go).

// way is the parts of a way.
func way(parts ...int) []int {
	return parts
}

// made is a thing of these ways.
func made(ways ...[]int) api.Made {
	return api.Made{Ways: ways}
}

// example is the records of the chapter's examples, of three sources, and a thing without ways.
func example() []api.Made {
	return []api.Made{made(way(0, 1), way(2)), made(way(3, 3)), made()}
}

// term is a term of these powers.
func term(times int, powers ...int) api.Term {
	return api.Term{Times: times, Powers: powers}
}

func ratio(num, den int) api.Ratio {
	return api.Ratio{Num: num, Den: den}
}

// copied is the same records in other memory.
func copied(things []api.Made) []api.Made {
	other := make([]api.Made, len(things))
	for i, thing := range things {
		other[i].Ways = slices.Clone(thing.Ways)
		for k, parts := range thing.Ways {
			other[i].Ways[k] = slices.Clone(parts)
		}
	}
	return other
}

// isSameMade compares records; an empty list is the same as none.
func isSameMade(a, b []api.Made) bool {
	return slices.EqualFunc(a, b, func(x, y api.Made) bool {
		return slices.EqualFunc(x.Ways, y.Ways, slices.Equal[[]int])
	})
}

func isSameTerms(a, b []api.Term) bool {
	return slices.EqualFunc(a, b, func(x, y api.Term) bool {
		return x.Times == y.Times && slices.Equal(x.Powers, y.Powers)
	})
}

// everyRing is all semirings.
var everyRing = []int{api.RingHave, api.RingWays, api.RingCost, api.RingTrust, api.RingDoubt, api.RingParts}

func source() *rand.Rand {
	return rand.New(rand.NewPCG(4, 2026))
}

// shape is how large records may be, and of how many parts one is the last thing before it.
type shape struct{ things, ways, parts, last int }

// Shapes of records: small ones have small polynomials, those of high ones are often full, and wide ones are as large as any.
var (
	small = shape{5, 3, 3, 6}
	high  = shape{10, 3, 4, 2}
	wide  = shape{api.MaxThings, api.MaxWays, api.MaxParts, 5}
)

// many calls test with random records; few of their things have no ways, and few of their ways no parts.
func many(times int, s shape, test func(r *rand.Rand, m int, things []api.Made)) {
	r := source()
	for range times {
		m := 1 + r.IntN(api.MaxSources)
		things := make([]api.Made, r.IntN(s.things+1))
		for i := range things {
			things[i] = randomMade(r, s, m, m+i)
		}
		test(r, m, things)
	}
}

func randomMade(r *rand.Rand, s shape, m, number int) api.Made {
	var thing api.Made
	if r.IntN(12) == 0 {
		return thing
	}
	for range 1 + r.IntN(s.ways) {
		var parts []int
		for range 1 + r.IntN(s.parts) {
			parts = append(parts, randomPart(r, s, m, number))
		}
		if r.IntN(12) == 0 {
			parts = nil
		}
		thing.Ways = append(thing.Ways, parts)
	}
	return thing
}

func randomPart(r *rand.Rand, s shape, m, number int) int {
	if r.IntN(s.last) == 0 {
		return number - 1
	}
	if r.IntN(2) == 0 {
		return r.IntN(number)
	}
	return r.IntN(m)
}

// randomValues is values of a ring, often at the ends.
func randomValues(r *rand.Rand, ring, m int) []int {
	values := make([]int, m)
	for i := range values {
		values[i] = randomValue(r, ring, m)
	}
	return values
}

func randomValue(r *rand.Rand, ring, m int) int {
	never := r.IntN(6) == 0
	switch ring {
	case api.RingHave:
		return r.IntN(2)
	case api.RingWays:
		return []int{0, 1, 2, r.IntN(20), r.IntN(1 << 14)}[r.IntN(5)]
	case api.RingCost:
		if never {
			return api.Never
		}
		return []int{0, 1, r.IntN(100), r.IntN(1 << 38)}[r.IntN(4)]
	case api.RingTrust:
		return []int{0, 100, r.IntN(101)}[r.IntN(3)]
	case api.RingDoubt:
		return []int{100, 99, 90 + r.IntN(11), r.IntN(101)}[r.IntN(4)]
	}
	if never {
		return api.Never
	}
	return r.IntN(1 << m)
}

// shuffled is the same records with the ways, and the parts of each, in another order.
func shuffled(r *rand.Rand, things []api.Made) []api.Made {
	other := copied(things)
	for _, thing := range other {
		r.Shuffle(len(thing.Ways), func(i, j int) { thing.Ways[i], thing.Ways[j] = thing.Ways[j], thing.Ways[i] })
		for _, parts := range thing.Ways {
			r.Shuffle(len(parts), func(i, j int) { parts[i], parts[j] = parts[j], parts[i] })
		}
	}
	return other
}

func expectPolynomial(t *testing.T, what string, m int, things []api.Made, no int, want ...api.Term) {
	t.Helper()
	if got, e := origin.Polynomial(m, things, no); !isSameTerms(got, want) || e != api.OK {
		t.Errorf("%s: %v, error %d; want %v", what, got, e, want)
	}
}

func expectFull(t *testing.T, what string, m int, things []api.Made, no int) {
	t.Helper()
	if got, e := origin.Polynomial(m, things, no); len(got) != 0 || e != api.ErrFull {
		t.Errorf("%s: %d terms, error %d; want ErrFull", what, len(got), e)
	}
}

func expectValue(t *testing.T, what string, m int, things []api.Made, ring int, sources []int, no, want int, error api.Errno) {
	t.Helper()
	if got, e := origin.Value(m, things, ring, sources, no); got != want || e != error {
		t.Errorf("%s: Value in ring %d of %v: %d, error %d; want %d, error %d", what, ring, sources, got, e, want, error)
	}
}

func expectOf(t *testing.T, what string, m int, terms []api.Term, ring int, sources []int, want int, error api.Errno) {
	t.Helper()
	if got, e := origin.Of(m, terms, ring, sources); got != want || e != error {
		t.Errorf("%s: Of in ring %d of %v: %d, error %d; want %d, error %d", what, ring, sources, got, e, want, error)
	}
}

func expectList(t *testing.T, what string, got []int, e api.Errno, want []int, error api.Errno) {
	t.Helper()
	if !slices.Equal(got, want) || e != error {
		t.Errorf("%s: %v, error %d; want %v, error %d", what, got, e, want, error)
	}
}

func expectShares(t *testing.T, what string, m int, things []api.Made, no int, want ...api.Ratio) {
	t.Helper()
	if got, e := origin.Shares(m, things, no); !slices.Equal(got, want) || e != api.OK {
		t.Errorf("%s: %v, error %d; want %v", what, got, e, want)
	}
}

func expectLost(t *testing.T, what string, m int, things []api.Made, no int) {
	t.Helper()
	if got, e := origin.Shares(m, things, no); len(got) != 0 || e != api.ErrRange {
		t.Errorf("%s: %v, error %d; want ErrRange", what, got, e)
	}
}
