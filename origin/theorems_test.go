package origin_test

import (
	"math/big"
	"math/rand/v2"
	"slices"
	"testing"

	"cocket/api"
	"cocket/origin"
)

func mustWitnesses(t *testing.T, m int, things []api.Made, no int) []int {
	t.Helper()
	list, e := origin.Witnesses(m, things, no)
	if e != api.OK {
		t.Fatalf("Witnesses of %d of %v: error %d", no, things, e)
	}
	return list
}

func mustValue(t *testing.T, m int, things []api.Made, ring int, sources []int, no int) int {
	t.Helper()
	v, e := origin.Value(m, things, ring, sources, no)
	if e != api.OK {
		t.Fatalf("Value in ring %d of %d of %v: error %d", ring, no, things, e)
	}
	return v
}

// themselves is each source as the set of itself.
func themselves(m int) []int {
	list := make([]int, m)
	for i := range list {
		list[i] = 1 << i
	}
	return list
}

// members lists the sources of a set.
func members(set int) []int {
	var list []int
	for i := range api.MaxSources {
		if set>>i&1 == 1 {
			list = append(list, i)
		}
	}
	return list
}

func TestP4_7OnePolynomialForAll(t *testing.T) {
	compared := 0
	test := func(r *rand.Rand, m int, things []api.Made) {
		for no := range m + len(things) {
			terms, e := origin.Polynomial(m, things, no)
			if e != api.OK {
				continue
			}
			for _, ring := range everyRing {
				sources := randomValues(r, ring, m)
				value, e := origin.Value(m, things, ring, sources, no)
				of, e2 := origin.Of(m, terms, ring, sources)
				if e != api.OK || e2 != api.OK {
					continue
				}
				if value != of {
					t.Fatalf("%d of %v, ring %d of %v: Value is %d, Of is %d", no, things, ring, sources, value, of)
				}
				compared++
			}
		}
	}
	many(300, small, test)
	many(300, high, test)
	many(100, wide, test)
	if compared < 10000 {
		t.Errorf("%d compared: too few to tell", compared)
	}
}

func TestP4_8WitnessesSuffice(t *testing.T) {
	test := func(r *rand.Rand, m int, things []api.Made) {
		for no := range m + len(things) {
			witnesses := mustWitnesses(t, m, things, no)
			for set := range 1 << m {
				sources := make([]int, m)
				for _, i := range members(set) {
					sources[i] = 1
				}
				is := slices.ContainsFunc(witnesses, func(w int) bool { return w&^set == 0 })
				if have := mustValue(t, m, things, api.RingHave, sources, no); is != (have == 1) {
					t.Fatalf("%d of %v from %v: Value is %d, Witnesses are %v", no, things, sources, have, witnesses)
				}
			}
		}
	}
	many(100, small, test)
	many(60, wide, test)
}

func TestP4_8WitnessesOfTerms(t *testing.T) {
	several := 0
	test := func(_ *rand.Rand, m int, things []api.Made) {
		for no := range m + len(things) {
			terms, e := origin.Polynomial(m, things, no)
			if e != api.OK {
				continue
			}
			var sets, least []int
			for _, x := range terms {
				set := 0
				for i, power := range x.Powers {
					if power > 0 {
						set |= 1 << i
					}
				}
				sets = append(sets, set)
			}
			for _, set := range sets {
				if !slices.ContainsFunc(sets, func(other int) bool { return other != set && other&^set == 0 }) {
					least = append(least, set)
				}
			}
			slices.Sort(least)
			if got := mustWitnesses(t, m, things, no); !slices.Equal(got, slices.Compact(least)) {
				t.Fatalf("%d of %v: %v; its terms have %v", no, things, got, sets)
			}
			if len(least) > 1 {
				several++
			}
		}
	}
	many(300, small, test)
	many(200, high, test)
	if several < 500 {
		t.Errorf("%d have several witnesses: too few to tell", several)
	}
}

func TestP4_8NeededIsWhatAllHave(t *testing.T) {
	never, some := 0, 0
	test := func(_ *rand.Rand, m int, things []api.Made) {
		for no := range m + len(things) {
			witnesses := mustWitnesses(t, m, things, no)
			parts := mustValue(t, m, things, api.RingParts, themselves(m), no)
			needed, e := origin.Needed(m, things, no)
			if len(witnesses) == 0 {
				if parts != api.Never || e != api.ErrPlan || len(needed) != 0 {
					t.Fatalf("%d of %v has no witness: %d, %v, error %d", no, things, parts, needed, e)
				}
				never++
				continue
			}
			all := 1<<m - 1
			for _, w := range witnesses {
				all &= w
			}
			if parts != all || !slices.Equal(needed, members(all)) || e != api.OK {
				t.Fatalf("%d of %v: %d, %v, error %d; all witnesses have %d", no, things, parts, needed, e, all)
			}
			if all > 0 && len(witnesses) > 1 {
				some++
			}
		}
	}
	many(300, small, test)
	many(200, wide, test)
	if never < 100 || some < 100 {
		t.Errorf("%d have no witness, %d need a source of several: too few to tell", never, some)
	}
}

// costs is the least cost of the witnesses, and trust the greatest trust.
func costs(witnesses, sources []int) int {
	least := api.Never
	for _, w := range witnesses {
		sum := 0
		for _, i := range members(w) {
			sum += sources[i]
		}
		if least == api.Never || sum < least {
			least = sum
		}
	}
	return least
}

func trust(witnesses, sources []int) int {
	most := 0
	for _, w := range witnesses {
		least := 100
		for _, i := range members(w) {
			least = min(least, sources[i])
		}
		most = max(most, least)
	}
	return most
}

func TestP4_9Bounds(t *testing.T) {
	once, less := 0, 0
	test := func(r *rand.Rand, m int, things []api.Made) {
		for no := range m + len(things) {
			witnesses := mustWitnesses(t, m, things, no)
			sources := randomValues(r, api.RingTrust, m)
			trusted := mustValue(t, m, things, api.RingTrust, sources, no)
			doubted := mustValue(t, m, things, api.RingDoubt, sources, no)
			if trusted != trust(witnesses, sources) || doubted > trusted {
				t.Fatalf("%d of %v: trust %d, doubt %d, witnesses %v of %v", no, things, trusted, doubted, witnesses, sources)
			}
			if doubted < trusted {
				less++
			}
			terms, e := origin.Polynomial(m, things, no)
			if e != api.OK || slices.ContainsFunc(terms, func(x api.Term) bool { return slices.Max(x.Powers) > 1 }) {
				continue
			}
			for i := range sources {
				sources[i] = r.IntN(1000)
			}
			if cost := mustValue(t, m, things, api.RingCost, sources, no); cost != costs(witnesses, sources) {
				t.Fatalf("%d of %v: cost %d, witnesses %v of %v", no, things, cost, witnesses, sources)
			}
			if len(terms) > 1 {
				once++
			}
		}
	}
	many(400, small, test)
	many(100, wide, test)
	if once < 100 || less < 100 {
		t.Errorf("%d have no source twice, %d are doubted: too few to tell", once, less)
	}
}

func TestP4_10Without(t *testing.T) {
	changed := 0
	test := func(r *rand.Rand, m int, things []api.Made) {
		source := r.IntN(m)
		left, e := origin.Without(m, things, source)
		if e != api.OK {
			t.Fatalf("%v without %d: error %d", things, source, e)
		}
		for no := m; no < m+len(things); no++ {
			all := mustWitnesses(t, m, things, no)
			want := slices.DeleteFunc(slices.Clone(all), func(w int) bool { return w>>source&1 == 1 })
			if got := mustWitnesses(t, m, left, no); !slices.Equal(got, want) {
				t.Fatalf("%d of %v without %d: %v; want %v", no, things, source, got, want)
			}
			sources := randomValues(r, api.RingHave, m)
			lacking := slices.Clone(sources)
			lacking[source] = 0
			if mustValue(t, m, left, api.RingHave, sources, no) != mustValue(t, m, things, api.RingHave, lacking, no) {
				t.Fatalf("%d of %v without %d, from %v", no, things, source, sources)
			}
			if len(want) != len(all) {
				changed++
			}
		}
	}
	many(300, small, test)
	many(200, wide, test)
	if changed < 300 {
		t.Errorf("%d changed: too few to tell", changed)
	}
}

// isWhole reports whether a thing, and all from which it comes, has ways, and every way has parts.
func isWhole(m int, things []api.Made, no int) bool {
	return !slices.ContainsFunc(comesFrom(m, things, no), func(number int) bool {
		ways := things[number-m].Ways
		return len(ways) == 0 || slices.ContainsFunc(ways, func(parts []int) bool { return len(parts) == 0 })
	})
}

func TestP4_11Shares(t *testing.T) {
	wholes, others := 0, 0
	test := func(_ *rand.Rand, m int, things []api.Made) {
		for no := range m + len(things) {
			shares, e := origin.Shares(m, things, no)
			if e != api.OK {
				continue
			}
			sum, one := new(big.Rat), big.NewRat(1, 1)
			for _, x := range shares {
				if x.Num < 0 || x.Den < 1 || x.Num > x.Den {
					t.Fatalf("%d of %v: %v", no, things, shares)
				}
				sum.Add(sum, big.NewRat(int64(x.Num), int64(x.Den)))
			}
			if sum.Cmp(one) > 0 || isWhole(m, things, no) && sum.Cmp(one) != 0 {
				t.Fatalf("%d of %v: %v sum to %v", no, things, shares, sum)
			}
			if isWhole(m, things, no) {
				wholes++
			} else {
				others++
			}
		}
	}
	many(300, small, test)
	many(200, high, test)
	many(100, wide, test)
	if wholes < 1000 || others < 1000 {
		t.Errorf("%d are whole, %d are not: too few to tell", wholes, others)
	}
}

func TestP4_12OrderPlaysNoPart(t *testing.T) {
	errors := 0
	test := func(r *rand.Rand, m int, things []api.Made) {
		other := shuffled(r, things)
		for no := range m + len(things) {
			terms, e := origin.Polynomial(m, things, no)
			terms2, e2 := origin.Polynomial(m, other, no)
			if !isSameTerms(terms, terms2) || e != e2 {
				t.Fatalf("Polynomial %d of %v and %v: %v, error %d; %v, error %d", no, things, other, terms, e, terms2, e2)
			}
			if e != api.OK {
				errors++
			}
			for _, ring := range everyRing {
				sources := randomValues(r, ring, m)
				value, e := origin.Value(m, things, ring, sources, no)
				value2, e2 := origin.Value(m, other, ring, sources, no)
				if value != value2 || e != e2 {
					t.Fatalf("Value in ring %d of %d of %v and %v: %d, error %d; %d, error %d", ring, no, things, other, value, e, value2, e2)
				}
			}
			shares, e := origin.Shares(m, things, no)
			shares2, e2 := origin.Shares(m, other, no)
			if !slices.Equal(shares, shares2) || e != e2 {
				t.Fatalf("Shares %d of %v and %v: %v, error %d; %v, error %d", no, things, other, shares, e, shares2, e2)
			}
		}
	}
	many(300, small, test)
	many(200, high, test)
	many(100, wide, test)
	if errors < 100 {
		t.Errorf("%d errors: too few to tell", errors)
	}
}
