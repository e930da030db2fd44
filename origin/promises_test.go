package origin_test

import (
	"math/big"
	"math/rand/v2"
	"slices"
	"testing"

	"cocket/api"
	"cocket/origin"
)

func TestP4_1Polynomial(t *testing.T) {
	things := example()
	expectPolynomial(t, "the thing of two ways", 3, things, 3, term(1, 1, 1, 0), term(1, 0, 0, 1))
	expectPolynomial(t, "doubled", 3, things, 4, term(1, 2, 2, 0), term(2, 1, 1, 1), term(1, 0, 0, 2))
	expectPolynomial(t, "a thing without ways", 3, things, 5)
	for no, want := range [][]int{{1, 0, 0}, {0, 1, 0}, {0, 0, 1}} {
		expectPolynomial(t, "a source", 3, things, no, term(1, want...))
	}
	expectPolynomial(t, "the only source", 1, nil, 0, term(1, 1))
	expectPolynomial(t, "the last source of six", 6, nil, 5, term(1, 0, 0, 0, 0, 0, 1))
	cases := []struct {
		what string
		last api.Made // the thing 5, after 3: x0 + x1, and 4, which cannot be made
		want []api.Term
	}{
		{"of nothing", made(way()), []api.Term{term(1, 0, 0, 0)}},
		{"of nothing, twice", made(nil, way()), []api.Term{term(2, 0, 0, 0)}},
		{"of nothing, or of a source", made(way(), way(1)), []api.Term{term(1, 0, 1, 0), term(1, 0, 0, 0)}},
		{"the same way twice", made(way(0, 2), way(2, 0)), []api.Term{term(2, 1, 0, 1)}},
		{"a part three times", made(way(3, 3, 3)), []api.Term{term(1, 3, 0, 0), term(3, 2, 1, 0), term(3, 1, 2, 0), term(1, 0, 3, 0)}},
		{"a way that cannot be", made(way(4, 0), way(1), way(0, 4)), []api.Term{term(1, 0, 1, 0)}},
		{"no way that can be", made(way(4), way(0, 4, 3)), nil},
		{"a thing and a source that is in it", made(way(3), way(0)), []api.Term{term(2, 1, 0, 0), term(1, 0, 1, 0)}},
		{"the greatest powers first", made(way(2, 2, 2, 2, 2, 2), way(), way(1, 2), way(1, 1), way(0), way(0, 2)),
			[]api.Term{term(1, 1, 0, 1), term(1, 1, 0, 0), term(1, 0, 2, 0), term(1, 0, 1, 1), term(1, 0, 0, 6), term(1, 0, 0, 0)}},
	}
	for _, c := range cases {
		expectPolynomial(t, c.what, 3, []api.Made{made(way(0), way(1)), made(), c.last}, 5, c.want...)
	}
}

// ladder is things of one source of which the last three have the Times 2^40, 2^40 + 1 and 2^64; the first is the number 1.
func ladder() []api.Made {
	return []api.Made{
		made(nil, nil), made(way(1, 1)), made(way(2, 2)), made(way(3, 3)), made(way(4, 4)), made(way(5, 5)), // 2 to 2^32
		made(way(6, 4)), made(way(7), nil), made(way(6, 6)),
	}
}

// tower is things of two sources: the numbers 2 to 5 are x1 with the powers 6, 30, 31 and 60.
func tower() []api.Made {
	return []api.Made{made(way(1, 1, 1, 1, 1, 1)), made(way(2, 2, 2, 2, 2)), made(way(3, 1)), made(way(3, 3))}
}

// crowd is things of four sources: the number 8 has 400 terms, 9 has one more, 10 has the same ones but one of them twice.
func crowd() []api.Made {
	five := func(x int) api.Made { return made(nil, way(x), way(x, x), way(x, x, x), way(x, x, x, x)) }
	four := func(x int) api.Made { return made(nil, way(x), way(x, x), way(x, x, x)) }
	return []api.Made{five(0), five(1), four(2), four(3), made(way(4, 5, 6, 7)), made(way(8), way(3, 3, 3, 3)), made(way(8), way(3, 3, 3))}
}

func TestP4_1PolynomialLimits(t *testing.T) {
	expectPolynomial(t, "2^40 times", 1, ladder(), 7, term(api.MaxTimes, 0))
	expectFull(t, "2^40 + 1 times", 1, ladder(), 8)
	expectFull(t, "2^64 times", 1, ladder(), 9)
	expectPolynomial(t, "2^40 times a source", 1, append(ladder(), made(way(0, 7, 0))), 10, term(api.MaxTimes, 2))
	expectFull(t, "2^40 + 1 times a source", 1, append(ladder(), made(way(0), way(7, 0))), 10)
	expectPolynomial(t, "2^40 times, and one of another power", 1, append(ladder(), made(way(0), way(7))), 10, term(1, 1), term(api.MaxTimes, 0))
	expectPolynomial(t, "power 30", 2, tower(), 3, term(1, 0, 30))
	expectFull(t, "power 31", 2, tower(), 4)
	expectFull(t, "power 60", 2, tower(), 5)
	both := append(tower(), made(way(0, 0, 0, 0, 0, 0)), made(way(6, 6, 6, 6, 6)), made(way(3, 7)), made(way(3, 7, 0)))
	expectPolynomial(t, "power 30 of both", 2, both, 8, term(1, 30, 30))
	expectFull(t, "power 31 of one, 30 of the other", 2, both, 9)
	if p, e := origin.Polynomial(4, crowd(), 8); len(p) != 400 || e != api.OK {
		t.Error(len(p), e)
	}
	expectFull(t, "401 terms", 4, crowd(), 9)
	p, e := origin.Polynomial(4, crowd(), 10)
	if len(p) != 400 || e != api.OK || p[0].Times != 1 || p[396].Times != 2 || !slices.Equal(p[396].Powers, []int{0, 0, 0, 3}) {
		t.Error(len(p), e)
	}
}

// It is full, too, if one of the things from which it comes is, even if that plays no part in it; but not for what comes in between.
func TestP4_1PolynomialOfFullThings(t *testing.T) {
	for _, c := range []struct {
		what       string
		m          int
		things     []api.Made
		good, full int
	}{{"times", 1, ladder(), 7, 8}, {"powers", 2, tower(), 3, 4}, {"terms", 4, crowd(), 8, 9}} {
		never, of := c.m+len(c.things), func(last ...api.Made) []api.Made {
			return append(append(slices.Clone(c.things), made()), last...)
		}
		expectFull(t, c.what+": from it", c.m, of(made(way(c.full))), never+1)
		expectFull(t, c.what+": from it, but never", c.m, of(made(way(c.full, never))), never+1)
		expectFull(t, c.what+": never, and from it", c.m, of(made(way(never, c.full))), never+1)
		expectFull(t, c.what+": from it, in another way", c.m, of(made(way(0), way(never, c.full))), never+1)
		expectFull(t, c.what+": from it, at a distance", c.m, of(made(way(c.full, never)), made(way(never+1), way(0)), made(way(never+2))), never+3)
		expectPolynomial(t, c.what+": in between, then never", c.m, of(made(way(c.good, c.good, 0, never))), never+1)
		expectPolynomial(t, c.what+": never, then in between", c.m, of(made(way(never, c.good, c.good, 0))), never+1)
		expectPolynomial(t, c.what+": in between, and another way", c.m, of(made(way(c.good, c.good, 0, never), way(never))), never+1)
		expectPolynomial(t, c.what+": beside it", c.m, of(made(nil, nil)), never+1, term(2, make([]int, c.m)...))
		expectPolynomial(t, c.what+": before it", c.m, of(made(way(c.full))), never)
	}
}

func TestP4_1PolynomialAgainstAllProducts(t *testing.T) {
	good, full := 0, 0
	test := func(_ *rand.Rand, m int, things []api.Made) {
		all := slowPolynomials(m, things)
		for no := range m + len(things) {
			want, error, ok := slowTerms(m, things, no, all)
			if !ok {
				continue
			}
			if got, e := origin.Polynomial(m, things, no); !isSameTerms(got, want) || e != error {
				t.Errorf("%d of %v: %v, error %d; want %v, error %d", no, things, got, e, want, error)
			}
			if error == api.OK && no >= m {
				good++
			} else if no >= m {
				full++
			}
		}
	}
	many(400, small, test)
	many(500, high, test)
	if good < 1000 || full < 100 {
		t.Errorf("%d have a polynomial, %d are full: too few to tell", good, full)
	}
}

func TestP4_2ValueInEachRing(t *testing.T) {
	const never = api.Never
	things := append(example(), made(nil), made(nil, way(2)), made(way(5, 2), way(0)), made(way(5), way(0, 5))) // 6 to 9
	for _, c := range []struct {
		ring    int
		sources []int
		want    []int // of 3 to 9
	}{
		{api.RingHave, []int{1, 1, 0}, []int{1, 1, 0, 1, 1, 1, 0}},
		{api.RingHave, []int{0, 1, 0}, []int{0, 0, 0, 1, 1, 0, 0}},
		{api.RingWays, []int{2, 3, 1}, []int{7, 49, 0, 1, 2, 2, 0}},
		{api.RingWays, []int{0, 0, 0}, []int{0, 0, 0, 1, 1, 0, 0}},
		{api.RingCost, []int{5, 1, 9}, []int{6, 12, never, 0, 0, 5, never}},
		{api.RingCost, []int{5, 1, 0}, []int{0, 0, never, 0, 0, 5, never}},
		{api.RingCost, []int{never, 1, 9}, []int{9, 18, never, 0, 0, never, never}},
		{api.RingCost, []int{never, 1, never}, []int{never, never, never, 0, 0, never, never}},
		{api.RingTrust, []int{90, 80, 70}, []int{80, 80, 0, 100, 100, 90, 0}},
		{api.RingTrust, []int{30, 80, 70}, []int{70, 70, 0, 100, 100, 30, 0}},
		{api.RingDoubt, []int{90, 80, 60}, []int{70, 40, 0, 100, 100, 90, 0}},
		{api.RingDoubt, []int{60, 30, 40}, []int{40, 0, 0, 100, 100, 60, 0}},
		{api.RingParts, []int{1, 2, 4}, []int{0, 0, never, 0, 0, 1, never}},
		{api.RingParts, []int{5, 6, 4}, []int{4, 4, never, 0, 0, 5, never}},
		{api.RingParts, []int{1, 2, never}, []int{3, 3, never, 0, 0, 1, never}},
		{api.RingParts, []int{never, 2, 7}, []int{7, 7, never, 0, 0, never, never}},
		{api.RingParts, []int{0, never, never}, []int{never, never, never, 0, 0, 0, never}},
	} {
		for i, want := range c.want {
			expectValue(t, "the example's things", 3, things, c.ring, c.sources, 3+i, want, api.OK)
		}
		for no, want := range c.sources {
			expectValue(t, "a source", 3, things, c.ring, c.sources, no, want, api.OK)
		}
	}
}

func TestP4_2ValueLimits(t *testing.T) {
	const most = api.MaxTimes
	for _, no := range []int{0, 1} { // the greatest values of a source
		expectValue(t, "a source", 2, nil, api.RingWays, []int{most, most}, no, most, api.OK)
		expectValue(t, "a source", 2, nil, api.RingCost, []int{most, most}, no, most, api.OK)
	}
	expectValue(t, "2^40 times", 1, ladder(), api.RingWays, []int{1}, 7, most, api.OK)
	expectValue(t, "2^40 + 1 times", 1, ladder(), api.RingWays, []int{1}, 8, 0, api.ErrRange)
	expectValue(t, "2^64 times", 1, ladder(), api.RingWays, []int{1}, 9, 0, api.ErrRange)
	for _, c := range []struct {
		what    string
		ring    int
		sources []int
		last    []api.Made // of three sources, from 3 on: 3 cannot be made
		want    int
		error   api.Errno
	}{
		{"a sum that is just within", api.RingWays, []int{most - 1, 1, 0}, []api.Made{made(way(0), way(1))}, most, api.OK},
		{"a sum that is just above", api.RingWays, []int{most, 1, 0}, []api.Made{made(way(0), way(1))}, 0, api.ErrRange},
		{"a product that is just within", api.RingWays, []int{1 << 20, 1 << 19, 2}, []api.Made{made(way(0, 1, 2))}, most, api.OK},
		{"a product that is just above", api.RingWays, []int{1<<20 + 1, 1 << 19, 2}, []api.Made{made(way(0, 1, 2))}, 0, api.ErrRange},
		{"a product that would be 0 in 64 bits", api.RingWays, []int{1 << 32, 1 << 16, 1}, []api.Made{made(way(0, 1, 1))}, 0, api.ErrRange},
		{"six of the greatest", api.RingWays, []int{most, most, most}, []api.Made{made(way(0, 1, 2, 0, 1, 2))}, 0, api.ErrRange},
		{"in between, then 0", api.RingWays, []int{most, most, 0}, []api.Made{made(way(0, 1, 2))}, 0, api.OK},
		{"0, then in between", api.RingWays, []int{most, most, 0}, []api.Made{made(way(2, 0, 1), way(2))}, 0, api.OK},
		{"in between, then never", api.RingWays, []int{most, most, 0}, []api.Made{made(way(0, 1, 3), way(1))}, most, api.OK},
		{"from what is above, times 0", api.RingWays, []int{most, 1, 0}, []api.Made{made(way(0), way(1)), made(way(4, 2))}, 0, api.ErrRange},
		{"at a distance from what is above", api.RingWays, []int{most, 1, 0}, []api.Made{made(way(0), way(1)), made(way(4, 2)), made(way(5, 3)), made(way(6), way(2))}, 0, api.ErrRange},
		{"beside what is above", api.RingWays, []int{most, 1, 0}, []api.Made{made(way(0), way(1)), made(way(0))}, most, api.OK},
		{"costs that are just within", api.RingCost, []int{most - 5, 5, 0}, []api.Made{made(way(0, 1, 2))}, most, api.OK},
		{"costs that are just above", api.RingCost, []int{most - 5, 6, 0}, []api.Made{made(way(0, 1, 2))}, 0, api.ErrRange},
		{"six of the greatest costs", api.RingCost, []int{most, most, most}, []api.Made{made(way(0, 1, 2, 0, 1, 2))}, 0, api.ErrRange},
		{"above, but another way is cheaper", api.RingCost, []int{most, most, 7}, []api.Made{made(way(0, 1), way(2, 2), way(1, 0))}, 14, api.OK},
		{"in between, then never", api.RingCost, []int{most, most, api.Never}, []api.Made{made(way(0, 1, 2))}, api.Never, api.OK},
		{"never, then in between", api.RingCost, []int{most, most, 7}, []api.Made{made(way(3, 0, 1))}, api.Never, api.OK},
		{"from what is above, but cheaper", api.RingCost, []int{most, 1, 0}, []api.Made{made(way(0, 1)), made(way(4), way(2))}, 0, api.ErrRange},
		{"from what is above, but never", api.RingCost, []int{most, 1, 0}, []api.Made{made(way(0, 1)), made(way(4, 3))}, 0, api.ErrRange},
		{"at a distance from what is above", api.RingCost, []int{most, 1, 0}, []api.Made{made(way(0, 1)), made(way(4), way(2)), made(way(5), way(2)), made(way(6))}, 0, api.ErrRange},
		{"beside what is above", api.RingCost, []int{most, 1, 0}, []api.Made{made(way(0, 1)), made(way(0))}, most, api.OK},
	} {
		things := append([]api.Made{made()}, c.last...)
		expectValue(t, c.what, 3, things, c.ring, c.sources, 2+len(things), c.want, c.error)
	}
}

// Of 20 things, each is several of the one before it.
func TestP4_2ValueOfHighTowers(t *testing.T) {
	for parts := 2; parts <= 6; parts++ {
		var things []api.Made
		for i := range api.MaxThings {
			things = append(things, made(slices.Repeat([]int{i}, parts)))
		}
		for no := 1; no <= api.MaxThings; no++ {
			n := power(parts, no)
			if n > api.MaxTimes {
				expectValue(t, "a tower of the cost 1", 1, things, api.RingCost, []int{1}, no, 0, api.ErrRange)
			} else {
				expectValue(t, "a tower of the cost 1", 1, things, api.RingCost, []int{1}, no, n, api.OK)
			}
			expectValue(t, "a tower of the greatest cost", 1, things, api.RingCost, []int{api.MaxTimes}, no, 0, api.ErrRange)
			expectValue(t, "a tower of what is free", 1, things, api.RingCost, []int{0}, no, 0, api.OK)
			expectValue(t, "a tower of one way", 1, things, api.RingWays, []int{1}, no, 1, api.OK)
			expectValue(t, "a tower without doubts", 1, things, api.RingDoubt, []int{100}, no, 100, api.OK)
			expectValue(t, "a tower of doubts", 1, things, api.RingDoubt, []int{99}, no, max(0, 100-n), api.OK)
		}
		expectValue(t, "a tower of two ways", 1, things, api.RingWays, []int{2}, 1, 1<<parts, api.OK)
		expectValue(t, "a tower of two ways", 1, things, api.RingWays, []int{2}, api.MaxThings, 0, api.ErrRange)
	}
}

func power(n, times int) int {
	product := 1
	for range times {
		product *= n
	}
	return product
}

func TestP4_2ValueAgainstAllProducts(t *testing.T) {
	good, out := 0, 0
	test := func(r *rand.Rand, m int, things []api.Made) {
		all := slowPolynomials(m, things)
		for no := range m + len(things) {
			for _, ring := range everyRing {
				sources := randomValues(r, ring, m)
				want, error, ok := slowValue(m, things, ring, sources, no, all)
				if !ok {
					continue
				}
				expectValue(t, "against all products", m, things, ring, sources, no, want, error)
				if error == api.OK {
					good++
				} else {
					out++
				}
			}
		}
		if t.Failed() {
			t.Fatal(m, things)
		}
	}
	many(300, small, test)
	many(500, high, test)
	if good < 10000 || out < 200 {
		t.Errorf("%d have a value, %d are out of range: too few to tell", good, out)
	}
}

func TestP4_2Of(t *testing.T) {
	const never, most = api.Never, api.MaxTimes
	doubled := []api.Term{term(1, 2, 2, 0), term(2, 1, 1, 1), term(1, 0, 0, 2)}
	constant, high := []api.Term{term(5, 0, 0, 0)}, []api.Term{term(1, 0, 0, 30)}
	for _, c := range []struct {
		what    string
		terms   []api.Term
		ring    int
		sources []int
		want    int
		error   api.Errno
	}{
		{"example", doubled, api.RingHave, []int{1, 1, 0}, 1, api.OK},
		{"example", doubled, api.RingHave, []int{1, 0, 0}, 0, api.OK},
		{"example", doubled, api.RingWays, []int{2, 3, 1}, 49, api.OK},
		{"example", doubled, api.RingCost, []int{5, 1, 9}, 12, api.OK},
		{"example", doubled, api.RingCost, []int{never, 1, 9}, 18, api.OK},
		{"example", doubled, api.RingCost, []int{never, 1, never}, never, api.OK},
		{"example", doubled, api.RingTrust, []int{90, 80, 70}, 80, api.OK},
		{"example", doubled, api.RingDoubt, []int{90, 80, 60}, 40, api.OK},
		{"example", doubled, api.RingParts, []int{5, 6, 4}, 4, api.OK},
		{"example", doubled, api.RingParts, []int{1, 2, never}, 3, api.OK},
		{"no terms", nil, api.RingHave, []int{1, 1, 1}, 0, api.OK},
		{"no terms", nil, api.RingWays, []int{1, 1, 1}, 0, api.OK},
		{"no terms", nil, api.RingCost, []int{1, 1, 1}, never, api.OK},
		{"no terms", nil, api.RingTrust, []int{1, 1, 1}, 0, api.OK},
		{"no terms", nil, api.RingDoubt, []int{1, 1, 1}, 0, api.OK},
		{"no terms", nil, api.RingParts, []int{1, 1, 1}, never, api.OK},
		{"no powers", constant, api.RingHave, []int{0, 0, 0}, 1, api.OK},
		{"no powers", constant, api.RingWays, []int{0, 0, 0}, 5, api.OK},
		{"no powers", constant, api.RingCost, []int{never, never, never}, 0, api.OK},
		{"no powers", constant, api.RingTrust, []int{0, 0, 0}, 100, api.OK},
		{"no powers", constant, api.RingDoubt, []int{0, 0, 0}, 100, api.OK},
		{"no powers", constant, api.RingParts, []int{never, never, never}, 0, api.OK},
		{"power 30", high, api.RingHave, []int{0, 0, 1}, 1, api.OK},
		{"power 30", high, api.RingWays, []int{0, 0, 2}, 1 << 30, api.OK},
		{"power 30", high, api.RingWays, []int{0, 0, 3}, 0, api.ErrRange},
		{"power 30", high, api.RingWays, []int{0, 0, most}, 0, api.ErrRange},
		{"power 30", high, api.RingCost, []int{0, 0, 7}, 210, api.OK},
		{"power 30", high, api.RingCost, []int{0, 0, most / 30}, most / 30 * 30, api.OK},
		{"power 30", high, api.RingCost, []int{0, 0, most/30 + 1}, 0, api.ErrRange},
		{"power 30", high, api.RingTrust, []int{0, 0, 7}, 7, api.OK},
		{"power 30", high, api.RingDoubt, []int{0, 0, 99}, 70, api.OK},
		{"power 30", high, api.RingDoubt, []int{0, 0, 96}, 0, api.OK},
		{"power 30", high, api.RingParts, []int{1, 2, 6}, 6, api.OK},
		{"often", []api.Term{term(most, 0, 0, 1)}, api.RingWays, []int{0, 0, 1}, most, api.OK},
		{"often", []api.Term{term(most, 0, 0, 1)}, api.RingWays, []int{0, 0, 2}, 0, api.ErrRange},
		{"often", []api.Term{term(most-1, 0, 0, 1), term(1, 0, 0, 0)}, api.RingWays, []int{0, 0, 1}, most, api.OK},
		{"often", []api.Term{term(most, 0, 0, 1), term(1, 0, 0, 0)}, api.RingWays, []int{0, 0, 1}, 0, api.ErrRange},
		{"often, in 64 bits 0", []api.Term{term(1<<32, 0, 0, 1)}, api.RingWays, []int{0, 0, 1 << 32}, 0, api.ErrRange},
		{"often 0", []api.Term{term(most, 30, 30, 1)}, api.RingWays, []int{most, most, 0}, 0, api.OK},
		{"often", []api.Term{term(most, 0, 1, 1)}, api.RingHave, []int{0, 1, 1}, 1, api.OK},
		{"often", []api.Term{term(most, 0, 1, 1)}, api.RingCost, []int{0, 3, 4}, 7, api.OK},
		{"often", []api.Term{term(most, 0, 1, 1)}, api.RingTrust, []int{0, 3, 4}, 3, api.OK},
		{"often", []api.Term{term(most, 0, 1, 1)}, api.RingDoubt, []int{0, 93, 94}, 87, api.OK},
		{"often", []api.Term{term(most, 0, 1, 1)}, api.RingParts, []int{0, 3, 5}, 7, api.OK},
		{"the same powers twice", []api.Term{term(2, 1, 0, 0), term(3, 1, 0, 0)}, api.RingWays, []int{7, 0, 0}, 35, api.OK},
		{"the least powers first", []api.Term{term(2, 0, 0, 1), term(3, 1, 0, 0)}, api.RingWays, []int{7, 0, 1}, 23, api.OK},
		{"above, but a term is cheaper", []api.Term{term(1, 2, 0, 0), term(1, 0, 1, 0), term(1, 2, 0, 1)}, api.RingCost, []int{most, 4, 5}, 4, api.OK},
		{"above, but never", []api.Term{term(1, 2, 0, 1)}, api.RingCost, []int{most, 4, never}, never, api.OK},
	} {
		expectOf(t, c.what, 3, c.terms, c.ring, c.sources, c.want, c.error)
	}
}

func TestP4_2OfLimits(t *testing.T) {
	full := slices.Repeat([]api.Term{term(1, 30, 30, 30, 30, 30, 30)}, api.MaxTerms)
	most := slices.Repeat([]int{api.MaxTimes}, 6)
	for _, c := range []struct {
		ring  int
		v     int
		want  int
		error api.Errno
	}{
		{api.RingHave, 1, 1, api.OK}, {api.RingWays, 1, 400, api.OK}, {api.RingCost, 1, 180, api.OK},
		{api.RingTrust, 1, 1, api.OK}, {api.RingDoubt, 100, 100, api.OK}, {api.RingParts, 63, 63, api.OK},
	} {
		expectOf(t, "400 terms", 6, full, c.ring, slices.Repeat([]int{c.v}, 6), c.want, c.error)
	}
	expectOf(t, "all as large as they can be", 6, full, api.RingWays, most, 0, api.ErrRange)
	expectOf(t, "all as large as they can be", 6, full, api.RingCost, most, 0, api.ErrRange)
	for i := range full {
		full[i].Times = api.MaxTimes
	}
	expectOf(t, "all as large as they can be", 6, full, api.RingWays, most, 0, api.ErrRange)
	expectOf(t, "400 times 2^40", 6, full, api.RingWays, slices.Repeat([]int{1}, 6), 0, api.ErrRange)
	expectOf(t, "one source, one term", 1, []api.Term{term(3, 2)}, api.RingWays, []int{5}, 75, api.OK)
}

func TestP4_2OfAgainstFormulas(t *testing.T) {
	r := source()
	for range 5000 {
		m, ring := 1+r.IntN(6), r.IntN(6)
		p := sums{}
		var terms []api.Term
		for range r.IntN(6) {
			var of monomial
			for i := range m {
				of[i] = max(0, r.IntN(8)-4)
			}
			x := term(1+r.IntN(3), slices.Clone(of[:m])...)
			addTo(p, of, big.NewInt(int64(x.Times)))
			terms = append(terms, x)
		}
		sources := randomValues(r, ring, m)
		if want := slowOf(p, ring, sources); want.Cmp(limit) > 0 {
			expectOf(t, "too much", m, terms, ring, sources, 0, api.ErrRange)
		} else {
			expectOf(t, "some terms", m, terms, ring, sources, int(want.Int64()), api.OK)
		}
	}
}

func TestP4_3Witnesses(t *testing.T) {
	things := append(example(), made(way(5, 0)), made(way(1), nil), made(way(3, 1), way(0, 2)), made(way(4, 2)), made(way(5), way(2))) // 6 to 10
	for no, want := range [][]int{{1}, {2}, {4}, {3, 4}, {3, 4}, nil, nil, {0}, {3, 5, 6}, {4}, {4}} {
		got, e := origin.Witnesses(3, things, no)
		expectList(t, "the example's things", got, e, want, api.OK)
	}
	var pairs [][]int // all witnesses of three out of six
	for set := range 64 {
		var list []int
		for i := range 6 {
			if set>>i&1 == 1 {
				list = append(list, i)
			}
		}
		if len(list) == 3 {
			pairs = append(pairs, list)
		}
	}
	list := []api.Made{made(pairs[:6]...), made(pairs[6:12]...), made(pairs[12:18]...), made(pairs[18:]...), made(way(6), way(7), way(8), way(9))}
	got, e := origin.Witnesses(6, list, 10)
	expectList(t, "three of six", got, e, []int{7, 11, 13, 14, 19, 21, 22, 25, 26, 28, 35, 37, 38, 41, 42, 44, 49, 50, 52, 56}, api.OK)
	got, e = origin.Witnesses(6, []api.Made{made(way(0, 1, 2, 3, 4, 5))}, 6)
	expectList(t, "all six", got, e, []int{63}, api.OK)
}

// What makes a Polynomial full, or a Value out of range, has witnesses all the same.
func TestP4_3WitnessesOfFullThings(t *testing.T) {
	got, e := origin.Witnesses(1, ladder(), 8)
	expectList(t, "2^40 + 1 times", got, e, []int{0}, api.OK)
	got, e = origin.Witnesses(2, tower(), 5)
	expectList(t, "power 60", got, e, []int{2}, api.OK)
	got, e = origin.Needed(2, tower(), 5)
	expectList(t, "power 60", got, e, []int{1}, api.OK)
	got, e = origin.Witnesses(4, append(crowd(), made(way(9, 9, 0))), 11)
	expectList(t, "too many terms", got, e, []int{1}, api.OK)
}

func TestP4_3WitnessesAgainstAllSets(t *testing.T) {
	none, several := 0, 0
	test := func(_ *rand.Rand, m int, things []api.Made) {
		for no := range m + len(things) {
			want := slowWitnesses(m, things, no)
			got, e := origin.Witnesses(m, things, no)
			expectList(t, "Witnesses", got, e, want, api.OK)
			var needed []int
			error := api.ErrPlan
			for i := range m {
				if suffices(m, things, 1<<m-1, no) && !suffices(m, things, 1<<m-1-1<<i, no) {
					needed = append(needed, i)
				}
			}
			if suffices(m, things, 1<<m-1, no) {
				error = api.OK
			}
			got, e = origin.Needed(m, things, no)
			expectList(t, "Needed", got, e, needed, error)
			switch len(want) {
			case 0:
				none++
			case 1:
			default:
				several++
			}
		}
		if t.Failed() {
			t.Fatal(m, things)
		}
	}
	many(300, small, test)
	many(200, wide, test)
	if none < 100 || several < 500 {
		t.Errorf("%d cannot be made, %d have several witnesses: too few to tell", none, several)
	}
}

func TestP4_3Needed(t *testing.T) {
	things := append(example(), made(way(5, 0)), made(way(1), nil), made(way(4, 2, 0), way(0, 2)), made(way(8), way(2, 1), way(5))) // 6 to 9
	for no, want := range map[int][]int{0: {0}, 1: {1}, 2: {2}, 3: nil, 4: nil, 7: nil, 8: {0, 2}, 9: {2}} {
		got, e := origin.Needed(3, things, no)
		expectList(t, "what can be made", got, e, want, api.OK)
	}
	for _, no := range []int{5, 6} {
		got, e := origin.Needed(3, things, no)
		expectList(t, "what cannot be made", got, e, nil, api.ErrPlan)
	}
	got, e := origin.Needed(6, []api.Made{made(way(5, 3, 4, 0, 1, 2))}, 6)
	expectList(t, "all six", got, e, []int{0, 1, 2, 3, 4, 5}, api.OK)
}

func TestP4_4Cheapest(t *testing.T) {
	const most = api.MaxTimes
	things := append(example(), made(nil), made(way(0), way(1, 1), way(2, 2, 2)), made(way(7, 7)), made(way(5), way(2)), made(way(0), nil, way(1))) // 6 to 10
	for _, c := range []struct {
		what  string
		costs []int
		no    int
		want  []int
	}{
		{"a source", []int{5, 1, 9}, 1, []int{0, 1, 0}},
		{"example 2", []int{5, 1, 9}, 3, []int{1, 1, 0}},
		{"example 2", []int{5, 1, 9}, 4, []int{2, 2, 0}},
		{"the other way", []int{5, 5, 9}, 4, []int{0, 0, 2}},
		{"of nothing", []int{5, 1, 9}, 6, []int{0, 0, 0}},
		{"the same costs: the least list", []int{5, 4, 9}, 3, []int{0, 0, 1}},
		{"the same costs: the least list", []int{5, 4, 9}, 4, []int{0, 0, 2}},
		{"all for nothing: the least list", []int{0, 0, 0}, 4, []int{0, 0, 2}},
		{"the same costs of three ways", []int{6, 3, 2}, 7, []int{0, 0, 3}},
		{"the same costs of two ways", []int{6, 3, 3}, 7, []int{0, 2, 0}},
		{"the same costs, doubled", []int{6, 3, 2}, 8, []int{0, 0, 6}},
		{"the same costs, doubled", []int{6, 3, 3}, 8, []int{0, 4, 0}},
		{"one way cannot be", []int{0, 0, most}, 9, []int{0, 0, 1}},
		{"of nothing, where all is free", []int{0, 0, 0}, 10, []int{0, 0, 0}},
		{"the greatest costs", []int{most, most, most}, 8, []int{2, 0, 0}},
		{"above what Value tells", []int{most, most - 1, most}, 4, []int{0, 0, 2}},
		{"above what Value tells", []int{0, most - 1, most}, 4, []int{2, 2, 0}},
	} {
		got, e := origin.Cheapest(3, things, c.costs, c.no)
		expectList(t, c.what, got, e, c.want, api.OK)
	}
	got, e := origin.Cheapest(3, things, []int{5, 1, 9}, 5)
	expectList(t, "what cannot be made", got, e, nil, api.ErrPlan)
	both := append(tower(), made(way(0, 0, 0, 0, 0, 0)), made(way(6, 6, 6, 6, 6)), made(way(3, 7), way(3, 6)))
	got, e = origin.Cheapest(2, both, []int{most, most}, 8)
	expectList(t, "six and thirty of the greatest costs", got, e, []int{6, 30}, api.OK)
}

func TestP4_4CheapestErrors(t *testing.T) {
	for _, costs := range [][]int{nil, {1}, {1, 1}, {1, 1, 1, 1}, {1, 1, api.Never}, {-1, 1, 1}, {1, api.MaxTimes + 1, 1}} {
		for no := range 6 {
			got, e := origin.Cheapest(3, example(), costs, no)
			expectList(t, "bad costs", got, e, nil, api.ErrArg)
		}
		got, e := origin.Cheapest(3, example(), costs, 6)
		expectList(t, "bad costs of no thing", got, e, nil, api.ErrNone)
	}
	for _, c := range []struct {
		what   string
		m      int
		things []api.Made
		full   int
	}{{"times", 1, ladder(), 8}, {"powers", 2, tower(), 4}, {"terms", 4, crowd(), 9}} {
		costs, never := slices.Repeat([]int{1}, c.m), c.m+len(c.things)
		things := append(c.things, made(), made(way(c.full, never)), made(way(0), way(c.full, never)))
		got, e := origin.Cheapest(c.m, things, costs, c.full)
		expectList(t, c.what, got, e, nil, api.ErrFull)
		got, e = origin.Cheapest(c.m, things, costs, never+1)
		expectList(t, c.what+": it cannot be made, and is full", got, e, nil, api.ErrPlan)
		got, e = origin.Cheapest(c.m, things, costs, never+2)
		expectList(t, c.what+": from what is full", got, e, nil, api.ErrFull)
		got, e = origin.Cheapest(c.m, things, costs[1:], c.full)
		expectList(t, c.what+": too few costs", got, e, nil, api.ErrArg)
	}
}

func TestP4_4CheapestAgainstAllTerms(t *testing.T) {
	found := 0
	test := func(r *rand.Rand, m int, things []api.Made) {
		all := slowPolynomials(m, things)
		for no := range m + len(things) {
			terms, error, ok := slowTerms(m, things, no, all)
			if !ok {
				continue
			}
			if !suffices(m, things, 1<<m-1, no) {
				error = api.ErrPlan
			}
			costs := make([]int, m)
			for i := range costs {
				costs[i] = []int{r.IntN(4), r.IntN(4), r.IntN(100), api.MaxTimes - r.IntN(3)}[r.IntN(4)]
			}
			got, e := origin.Cheapest(m, things, costs, no)
			expectList(t, "Cheapest", got, e, slowCheapest(terms, costs), error)
			if len(terms) > 1 {
				found++
			}
		}
		if t.Failed() {
			t.Fatal(m, things)
		}
	}
	many(400, small, test)
	many(200, high, test)
	if found < 500 {
		t.Errorf("%d have several terms: too few to tell", found)
	}
}

func TestP4_5Shares(t *testing.T) {
	none := ratio(0, 1)
	things := append(example(), made(nil), made(way(0), nil), made(way(5, 0)), made(way(0, 1, 1), way(1, 2)), made(way(4, 9, 0))) // 6 to 10
	for no, want := range [][]api.Ratio{
		{ratio(1, 1), none, none}, {none, ratio(1, 1), none}, {none, none, ratio(1, 1)},
		{ratio(1, 4), ratio(1, 4), ratio(1, 2)}, {ratio(1, 4), ratio(1, 4), ratio(1, 2)}, {none, none, none},
		{none, none, none}, {ratio(1, 2), none, none}, {ratio(1, 2), none, none}, {ratio(1, 6), ratio(7, 12), ratio(1, 4)},
		{ratio(17, 36), ratio(5, 18), ratio(1, 4)},
	} {
		expectShares(t, "the example's things", 3, things, no, want...)
	}
	for parts := 1; parts <= 6; parts++ {
		for ways := 1; ways <= 6; ways++ {
			one := made(slices.Repeat([][]int{make([]int, parts)}, ways-1)...)
			one.Ways = append(one.Ways, make([]int, parts))
			one.Ways[ways-1][parts-1] = 1
			n := ways * parts
			expectShares(t, "one part of all", 2, []api.Made{one}, 2, reduced(n-1, n), reduced(1, n))
		}
	}
}

func reduced(num, den int) api.Ratio {
	for d := 2; d <= den; d++ {
		for num%d == 0 && den%d == 0 {
			num, den = num/d, den/d
		}
	}
	return ratio(num, den)
}

// mixed is things of two sources: each is of source 1 a share of 1 to base^2 of what the one before it is; the first is so of source 1 itself.
func mixed(things []api.Made, base, count int, of, rest int) []api.Made {
	for range count {
		ways := slices.Repeat([][]int{{rest}}, base)
		ways[0] = slices.Repeat([]int{rest}, base)
		ways[0][base-1] = of
		of = 2 + len(things)
		things = append(things, made(ways...))
	}
	return things
}

func TestP4_5SharesLimits(t *testing.T) {
	const most = api.MaxTimes
	ten := mixed(nil, 4, 10, 1, 0)
	things := append(ten, made(way(11), way(0)), made(way(11), way(1)), made(), made(way(12, 14)), made(way(12, 12)), made(way(2))) // 12 to 17
	expectShares(t, "2^40", 2, things, 11, ratio(most-1, most), ratio(1, most))
	expectShares(t, "2^38", 2, things, 10, ratio(most/16-1, most/16), ratio(1, most/16))
	expectLost(t, "2^41", 2, things, 12)
	expectLost(t, "2^41", 2, things, 13)
	expectLost(t, "from 2^41, at a half", 2, things, 15)
	expectLost(t, "from 2^41", 2, things, 16)
	expectShares(t, "beside 2^41", 2, things, 17, ratio(15, 16), ratio(1, 16))
	for _, c := range []struct{ base, within int }{{2, 20}, {3, 12}, {5, 8}, {6, 7}} {
		things := mixed(nil, c.base, min(20, c.within+2), 1, 0)
		den := power(c.base, 2*c.within)
		expectShares(t, "the greatest power", 2, things, 1+c.within, ratio(den-1, den), ratio(1, den))
		for no := 2 + c.within; no < 2+len(things); no++ {
			expectLost(t, "a greater power", 2, things, no)
		}
	}
	threes := append(mixed(nil, 3, 12, 1, 0), made(way(13, 0, 0))) // 3^25 is within
	expectShares(t, "3^25", 2, threes, 14, ratio(power(3, 25)-1, power(3, 25)), ratio(1, power(3, 25)))
	fives := append(mixed(nil, 5, 8, 1, 0), made(way(9, 0, 0, 0, 0))) // and 5^17
	expectShares(t, "5^17", 2, fives, 10, ratio(power(5, 17)-1, power(5, 17)), ratio(1, power(5, 17)))
}

// A product of powers is above MaxTimes although none of them is.
func TestP4_5SharesOfSeveralPrimes(t *testing.T) {
	things := mixed(nil, 2, 10, 1, 0) // 2^20
	sixth := mixed(things, 3, 6, 11, 0)
	expectShares(t, "2^20 3^12", 2, sixth, 17, ratio(1<<20*power(3, 12)-1, 1<<20*power(3, 12)), ratio(1, 1<<20*power(3, 12)))
	expectLost(t, "2^20 3^14", 2, mixed(things, 3, 7, 11, 0), 18)
	full := append(sixth, made(way(17, 0)), made(way(18, 0))) // 2^21 3^12 is 1.01 * 2^40
	expectLost(t, "2^21 3^12", 2, full, 18)
	expectLost(t, "2^22 3^12", 2, full, 19)
}

// Pairs of parts are a whole of each source together; before they are, the Den of their sum is above MaxTimes.
func TestP4_5SharesInBetween(t *testing.T) {
	things := mixed(nil, 6, 6, 1, 0) // 7: 6^12 is 2^31.0
	things = mixed(things, 6, 6, 0, 1)
	things = mixed(things, 5, 3, 1, 0) // 16: 5^6 is 2^13.9
	things = mixed(things, 5, 3, 0, 1)
	for _, last := range []api.Made{
		made(way(7, 13, 16, 19)), made(way(7, 16, 13, 19)), made(way(16, 7, 19, 13)),
		made(way(7), way(16), way(19), way(13)), made(way(7, 16), way(13, 19)), made(way(7, 16, 13, 19), way(19, 16), way(7, 13)),
	} {
		expectShares(t, "a half", 2, append(things, last), 20, ratio(1, 2), ratio(1, 2))
	}
	const d = 78364164096           // 6^14
	things = mixed(nil, 6, 7, 1, 0) // 8
	things = mixed(things, 5, 5, 1, 0)
	things = mixed(things, 5, 5, 0, 1) // 13 and 18: 5^10 is 2^23.2
	for _, last := range []api.Made{made(way(8, 13, 18)), made(way(13, 8, 18)), made(way(13), way(8), way(18))} {
		expectShares(t, "a third of 1 and a little", 2, append(things, last), 19, ratio(2*d-1, 3*d), ratio(d+1, 3*d))
	}
}

func TestP4_5SharesAgainstRationals(t *testing.T) {
	good, lost := 0, 0
	test := func(_ *rand.Rand, m int, things []api.Made) {
		all := slowShares(m, things)
		for no := range m + len(things) {
			want, error := slowRatios(m, things, no, all)
			if got, e := origin.Shares(m, things, no); !slices.Equal(got, want) || e != error {
				t.Fatalf("%d of %v: %v, error %d; want %v, error %d", no, things, got, e, want, error)
			}
			if error == api.OK {
				good++
			} else {
				lost++
			}
		}
	}
	many(500, small, test)
	many(500, high, test)
	many(500, wide, test)
	many(500, shape{20, 1, 5, 2}, test)
	many(500, shape{20, 6, 2, 2}, test)
	if good < 10000 || lost < 300 {
		t.Errorf("%d have shares, %d are out of range: too few to tell", good, lost)
	}
}

func TestP4_6Without(t *testing.T) {
	things := append(example(), made(way(2, 2), way(0, 1, 2), nil, way(3, 5), way(5, 0)))
	for source, want := range [][]api.Made{
		{made(way(2)), made(way(3, 3)), made(), made(way(2, 2), nil, way(3, 5))},
		{made(way(2)), made(way(3, 3)), made(), made(way(2, 2), nil, way(3, 5), way(5, 0))},
		{made(way(0, 1)), made(way(3, 3)), made(), made(nil, way(3, 5), way(5, 0))},
	} {
		if got, e := origin.Without(3, things, source); !isSameMade(got, want) || e != api.OK {
			t.Errorf("without %d: %v, error %d; want %v", source, got, e, want)
		}
	}
	for _, m := range []int{1, 6} {
		if got, e := origin.Without(m, nil, m-1); len(got) != 0 || e != api.OK {
			t.Error(got, e)
		}
	}
	if got, e := origin.Without(1, []api.Made{made(way(0)), made(way(1))}, 0); !isSameMade(got, []api.Made{made(), made(way(1))}) || e != api.OK {
		t.Error(got, e)
	}
	for _, no := range []int{-1, 3, 4, 6, 7} {
		if got, e := origin.Without(3, things, no); len(got) != 0 || e != api.ErrArg {
			t.Errorf("without %d: %v, error %d; want ErrArg", no, got, e)
		}
	}
}

func TestP4_6WithoutAgainstAllWays(t *testing.T) {
	many(300, wide, func(r *rand.Rand, m int, things []api.Made) {
		source := r.IntN(m)
		var want []api.Made
		for _, thing := range things {
			var left api.Made
			for _, parts := range thing.Ways {
				if !slices.Contains(parts, source) {
					left.Ways = append(left.Ways, parts)
				}
			}
			want = append(want, left)
		}
		if got, e := origin.Without(m, things, source); !isSameMade(got, want) || e != api.OK {
			t.Fatalf("%v without %d: %v, error %d", things, source, got, e)
		}
	})
}
