package rate_test

import (
	"math"
	"math/rand/v2"
	"slices"
	"testing"

	"cocket/api"
	"cocket/rate"
)

func TestP1_1Gains(t *testing.T) {
	// The round 0 1 2 gains, and so does 3 4; the round 5 6 has the rate 1.
	offers := append(gaining(),
		api.Offer{From: 0, To: 3, Num: 2, Den: 1}, api.Offer{From: 3, To: 0, Num: 1, Den: 1},
		api.Offer{From: 1, To: 3, Num: 2, Den: 4}, api.Offer{From: 3, To: 1, Num: 50, Den: 25},
		api.Offer{From: 2, To: 0, Num: 1, Den: 4})
	cases := []struct {
		what string
		walk []int
		want bool
	}{
		{"a round", []int{0, 1, 2}, true},
		{"the same from its second currency on", []int{1, 2, 0}, true},
		{"the same from its third currency on", []int{2, 0, 1}, true},
		{"a round of two", []int{3, 4}, true},
		{"the same turned", []int{4, 3}, true},
		{"a rate of 1", []int{5, 6}, false},
		{"a rate below 1", []int{0, 1, 7}, false},
		{"nothing", nil, false},
		{"nothing", []int{}, false},
		{"not closed", []int{0, 1}, false},
		{"a single offer", []int{0}, false},
		{"not a walk", []int{0, 2, 1}, false},
		{"not a walk, but of fitting ends", []int{0, 6, 2}, false},
		{"not a walk at its first step", []int{0, 4}, false},
		{"twice around", []int{3, 4, 3, 4}, false},
		{"two rounds with a currency in common", []int{0, 1, 2, 3, 4}, false},
		{"a round within a round", []int{0, 5, 6, 1, 2}, false},
		{"a round and more", []int{3, 4, 0}, false},
		{"an offer twice", []int{0, 0}, false},
		{"an index that is none", []int{-1}, false},
		{"an index that is none", []int{8}, false},
		{"an index that is none after a round", []int{0, 1, 2, 8}, false},
		{"an index that is none", []int{0, 1, math.MaxInt}, false},
		{"an index that is none", []int{math.MinInt, 1, 2}, false},
	}
	for _, c := range cases {
		if got, e := rate.Gains(4, offers, c.walk); got != c.want || e != api.OK {
			t.Error(c.what, c.walk, got, e)
		}
	}
	if got, e := rate.Gains(2, nil, []int{0}); got || e != api.OK {
		t.Error(got, e)
	}
}

// All six currencies at the greatest rates: products that 32 bits do not hold.
func TestP1_1GainsLargeRates(t *testing.T) {
	var offers []api.Offer
	for c := range 6 {
		offers = append(offers, api.Offer{From: c, To: (c + 1) % 6, Num: 50, Den: 49})
	}
	round := []int{3, 4, 5, 0, 1, 2}
	if got, e := rate.Gains(6, offers, round); !got || e != api.OK {
		t.Error(got, e)
	}
	offers[0] = api.Offer{From: 0, To: 1, Num: 45, Den: 50} // 50^5 * 45 is below 49^5 * 50
	if got, e := rate.Gains(6, offers, round); got || e != api.OK {
		t.Error(got, e)
	}
	offers[0] = api.Offer{From: 0, To: 1, Num: 46, Den: 50} // and 50^5 * 46 above
	if got, e := rate.Gains(6, offers, round); !got || e != api.OK {
		t.Error(got, e)
	}
}

func TestP1_1GainsAgainstAllWalks(t *testing.T) {
	eachMarket(t, 60, func(t *testing.T, r *rand.Rand, n int) {
		offers := anyOffers(r, n, 1+r.IntN(9), 3)
		for _, w := range simpleWalks(n, offers, -1) {
			want := isRound(offers, w) && walkRate(offers, w).Cmp(whole(1)) > 0
			if got, e := rate.Gains(n, offers, w); got != want || e != api.OK {
				t.Fatal(n, offers, w, got, e)
			}
		}
	})
}

func TestP1_1Agree(t *testing.T) {
	const top = api.MaxPrice
	cases := []struct {
		prices []api.Ratio
		want   bool
	}{
		{[]api.Ratio{ratio(3, 1), ratio(3, 2), ratio(1, 1)}, true},
		{[]api.Ratio{ratio(1, 1), ratio(1, 2), ratio(1, 3)}, true},
		{[]api.Ratio{ratio(1, 1), ratio(1, 1), ratio(1, 1)}, false},
		{[]api.Ratio{ratio(31, 10), ratio(3, 2), ratio(1, 1)}, false},
		{[]api.Ratio{ratio(3, 1), ratio(8, 5), ratio(1, 1)}, false},
		{[]api.Ratio{ratio(3, 1), ratio(3, 2), ratio(11, 10)}, false},
	}
	for _, c := range cases {
		if got, e := rate.Agree(3, example(), c.prices); got != c.want || e != api.OK {
			t.Error(c.prices, got, e)
		}
	}
	if got, e := rate.Agree(2, nil, []api.Ratio{ratio(top, 1), ratio(1, top)}); !got || e != api.OK {
		t.Error(got, e)
	}
}

// Prices that differ by less than any float tells, and whose products need more than 64 bits.
func TestP1_1AgreeIsExact(t *testing.T) {
	const top = api.MaxPrice
	equal := []api.Offer{{From: 0, To: 1, Num: 50, Den: 50}}
	high, low := ratio(top, top-1), ratio(top-1, top-2)
	if got, e := rate.Agree(2, equal, []api.Ratio{low, high}); !got || e != api.OK {
		t.Error("low is the greater one", got, e)
	}
	if got, e := rate.Agree(2, equal, []api.Ratio{high, low}); got || e != api.OK {
		t.Error("high is the lesser one", got, e)
	}
	if got, e := rate.Agree(2, equal, []api.Ratio{high, high}); !got || e != api.OK {
		t.Error(got, e)
	}
	steep := []api.Offer{{From: 0, To: 1, Num: 50, Den: 1}}
	if got, e := rate.Agree(2, steep, []api.Ratio{ratio(1, top), ratio(top, 1)}); got || e != api.OK {
		t.Error(got, e)
	}
	if got, e := rate.Agree(2, steep, []api.Ratio{ratio(top, 1), ratio(1, top)}); !got || e != api.OK {
		t.Error(got, e)
	}
}

func TestP1_1AgreeErrors(t *testing.T) {
	const top = api.MaxPrice
	fine := []api.Ratio{ratio(3, 1), ratio(3, 2), ratio(1, 1)}
	for _, prices := range [][]api.Ratio{nil, {}, fine[:2], append(slices.Clone(fine), ratio(1, 1))} {
		if got, e := rate.Agree(3, example(), prices); got || e != api.ErrArg {
			t.Error(prices, got, e)
		}
	}
	bad := []api.Ratio{
		ratio(0, 1), ratio(1, 0), ratio(0, 0), ratio(-1, 1), ratio(1, -1), ratio(-1, -1),
		ratio(2, 2), ratio(6, 4), ratio(top, 2), ratio(3, 3*7),
		ratio(top+1, 1), ratio(1, top+1), ratio(math.MaxInt, 1), ratio(1, math.MinInt), ratio(math.MinInt, -1),
	}
	for _, p := range bad {
		for place := range fine {
			prices := slices.Clone(fine)
			prices[place] = p
			if got, e := rate.Agree(3, example(), prices); got || e != api.ErrArg {
				t.Error(prices, got, e)
			}
		}
		if got, e := rate.Agree(2, nil, []api.Ratio{ratio(1, 1), p}); got || e != api.ErrArg {
			t.Error(p, got, e)
		}
	}
	// A price that is not valid is an error although another one does not agree.
	if got, e := rate.Agree(3, example(), []api.Ratio{ratio(1, 1), ratio(50, 1), ratio(2, 2)}); got || e != api.ErrArg {
		t.Error(got, e)
	}
}

func TestP1_2Round(t *testing.T) {
	turn := func(offers ...api.Offer) []api.Offer { return offers }
	cases := []struct {
		what   string
		n      int
		offers []api.Offer
		want   []int
	}{
		{"example 2", 3, gaining(), []int{0, 1, 2}},
		{"the list begins with its least index", 3, turn(gaining()[2], gaining()[1], gaining()[0]), []int{0, 2, 1}},
		{"the fewest offers, although the indices are greater", 3,
			append(gaining(), api.Offer{From: 1, To: 0, Num: 2, Den: 3}), []int{0, 3}},
		{"the fewest offers, although the rate is less", 3,
			append(gaining(), api.Offer{From: 1, To: 2, Num: 50, Den: 1}, api.Offer{From: 2, To: 1, Num: 49, Den: 48}, api.Offer{From: 1, To: 2, Num: 1, Den: 1}), []int{1, 4}},
		{"the lesser of two rounds", 4,
			turn(api.Offer{From: 2, To: 3, Num: 2, Den: 1}, api.Offer{From: 0, To: 1, Num: 2, Den: 1}, api.Offer{From: 1, To: 0, Num: 3, Den: 1}, api.Offer{From: 3, To: 2, Num: 1, Den: 1}), []int{0, 3}},
		{"of offers side by side the first that is enough", 2,
			turn(api.Offer{From: 0, To: 1, Num: 2, Den: 1}, api.Offer{From: 1, To: 0, Num: 1, Den: 2}, api.Offer{From: 1, To: 0, Num: 2, Den: 3}, api.Offer{From: 1, To: 0, Num: 50, Den: 1}), []int{0, 2}},
		{"a worse offer at the beginning, if the rest makes up for it", 2,
			turn(api.Offer{From: 0, To: 1, Num: 1, Den: 50}, api.Offer{From: 0, To: 1, Num: 1, Den: 1}, api.Offer{From: 1, To: 0, Num: 2, Den: 1}, api.Offer{From: 1, To: 0, Num: 50, Den: 1}), []int{1, 2}},
		{"the lesser list by a worse offer", 2,
			turn(api.Offer{From: 0, To: 1, Num: 1, Den: 49}, api.Offer{From: 0, To: 1, Num: 1, Den: 1}, api.Offer{From: 1, To: 0, Num: 2, Den: 1}, api.Offer{From: 1, To: 0, Num: 50, Den: 1}), []int{0, 3}},
		{"no round", 3, example()[:2], nil},
		{"a rate of 1", 3, example(), nil},
		{"a rate of 1, not in lowest terms", 2, turn(api.Offer{From: 0, To: 1, Num: 20, Den: 10}, api.Offer{From: 1, To: 0, Num: 7, Den: 14}), nil},
		{"no offers", 6, nil, nil},
	}
	for _, c := range cases {
		want := api.OK
		if c.want == nil {
			want = api.ErrPlan
		}
		if got, e := rate.Round(c.n, c.offers); !slices.Equal(got, c.want) || e != want {
			t.Error(c.what, got, e)
		}
	}
}

// A round of all six currencies, by a hair above 1 and by a hair below.
func TestP1_2RoundOfAll(t *testing.T) {
	var offers []api.Offer
	for c := range 5 {
		offers = append(offers, api.Offer{From: c, To: c + 1, Num: 50, Den: 49})
	}
	offers = append(offers, api.Offer{From: 5, To: 0, Num: 46, Den: 50})
	if got, e := rate.Round(6, offers); !slices.Equal(got, []int{0, 1, 2, 3, 4, 5}) || e != api.OK {
		t.Error(got, e)
	}
	offers[5].Num = 45
	if got, e := rate.Round(6, offers); len(got) != 0 || e != api.ErrPlan {
		t.Error(got, e)
	}
}

func TestP1_2RoundAgainstAllWalks(t *testing.T) {
	eachMarket(t, 1500, func(t *testing.T, r *rand.Rand, n int) {
		offers := anyOffers(r, n, 1+r.IntN(10), 4)
		want := slowRound(n, offers)
		got, e := rate.Round(n, offers)
		if !slices.Equal(got, want) || (want == nil) != (e == api.ErrPlan) || (want != nil) != (e == api.OK) {
			t.Fatal(n, offers, got, e, want)
		}
	})
}

// Offers that lose a little each, and a few that gain: the rounds that gain are long, and there are many of them.
func TestP1_2LongRounds(t *testing.T) {
	eachMarket(t, 300, func(t *testing.T, r *rand.Rand, n int) {
		var offers []api.Offer
		for range 12 {
			from := r.IntN(n)
			offers = append(offers, api.Offer{From: from, To: (from + 1) % n, Num: 8 + r.IntN(4), Den: 10})
		}
		want := slowRound(n, offers)
		got, e := rate.Round(n, offers)
		if !slices.Equal(got, want) || (want == nil) != (e == api.ErrPlan) {
			t.Fatal(n, offers, got, e, want)
		}
	})
}

func TestP1_3Prices(t *testing.T) {
	cases := []struct {
		what   string
		n      int
		offers []api.Offer
		want   []api.Ratio
	}{
		{"example 1", 3, example(), []api.Ratio{ratio(3, 1), ratio(3, 2), ratio(1, 1)}},
		{"no offers: the empty walk", 4, nil, slices.Repeat([]api.Ratio{ratio(1, 1)}, 4)},
		{"no walk is better than the empty one", 2, []api.Offer{{From: 0, To: 1, Num: 49, Den: 50}}, []api.Ratio{ratio(1, 1), ratio(1, 1)}},
		{"the walk that goes on is worse", 3, []api.Offer{{From: 0, To: 1, Num: 4, Den: 2}, {From: 1, To: 2, Num: 1, Den: 3}}, []api.Ratio{ratio(2, 1), ratio(1, 1), ratio(1, 1)}},
		{"through a loss to a gain", 3, []api.Offer{{From: 0, To: 1, Num: 1, Den: 3}, {From: 1, To: 2, Num: 15, Den: 2}}, []api.Ratio{ratio(5, 2), ratio(15, 2), ratio(1, 1)}},
		{"a round of the rate 1", 2, []api.Offer{{From: 0, To: 1, Num: 6, Den: 4}, {From: 1, To: 0, Num: 2, Den: 3}}, []api.Ratio{ratio(3, 2), ratio(1, 1)}},
		{"a round far away loses", 4, []api.Offer{{From: 2, To: 3, Num: 2, Den: 1}, {From: 3, To: 2, Num: 1, Den: 3}}, []api.Ratio{ratio(1, 1), ratio(1, 1), ratio(2, 1), ratio(1, 1)}},
	}
	for _, c := range cases {
		if got, e := rate.Prices(c.n, c.offers); !slices.Equal(got, c.want) || e != api.OK {
			t.Error(c.what, got, e)
		}
	}
	var steep []api.Offer
	for c := range 5 {
		steep = append(steep, api.Offer{From: c, To: c + 1, Num: 50, Den: 1})
	}
	if got, e := rate.Prices(6, steep); e != api.OK || got[0] != ratio(312500000, 1) || got[5] != ratio(1, 1) {
		t.Error(got, e)
	}
	if got, e := rate.Prices(3, gaining()); len(got) != 0 || e != api.ErrPlan {
		t.Error(got, e)
	}
	apart := []api.Offer{{From: 2, To: 3, Num: 2, Den: 1}, {From: 3, To: 2, Num: 2, Den: 3}}
	if got, e := rate.Prices(4, apart); len(got) != 0 || e != api.ErrPlan {
		t.Error(got, e)
	}
}

func TestP1_3PricesAgainstAllWalks(t *testing.T) {
	eachMarket(t, 800, func(t *testing.T, r *rand.Rand, n int) {
		offers, _ := fairOffers(r, n, r.IntN(12))
		if r.IntN(3) == 0 {
			offers = anyOffers(r, n, r.IntN(7), 9)
		}
		got, e := rate.Prices(n, offers)
		if slowRound(n, offers) != nil {
			if len(got) != 0 || e != api.ErrPlan {
				t.Fatal(n, offers, got, e)
			}
			return
		}
		if e != api.OK || len(got) != n {
			t.Fatal(n, offers, got, e)
		}
		for c := range n {
			most := whole(1)
			for _, w := range simpleWalks(n, offers, c) {
				if x := walkRate(offers, w); x.Cmp(most) > 0 {
					most = x
				}
			}
			if !equals(got[c], most) {
				t.Fatal(n, offers, c, got, most)
			}
		}
	})
}

func TestP1_4Best(t *testing.T) {
	direct := append(example(), api.Offer{From: 0, To: 2, Num: 3, Den: 1}, api.Offer{From: 0, To: 2, Num: 2, Den: 1})
	twins := []api.Offer{{From: 0, To: 1, Num: 1, Den: 1}, {From: 0, To: 1, Num: 4, Den: 2}, {From: 0, To: 1, Num: 2, Den: 1}}
	square := []api.Offer{ // two ways from 0 to 3 at the same rate: the first offer decides, not the last
		{From: 1, To: 3, Num: 3, Den: 1}, {From: 0, To: 2, Num: 3, Den: 1}, {From: 0, To: 1, Num: 2, Den: 1}, {From: 2, To: 3, Num: 2, Den: 1},
	}
	cases := []struct {
		what     string
		n        int
		offers   []api.Offer
		from, to int
		rate     api.Ratio
		walk     []int
	}{
		{"by another one", 3, example(), 0, 2, ratio(3, 1), []int{0, 1}},
		{"an offer", 3, example(), 1, 2, ratio(3, 2), []int{1}},
		{"a loss is better than nothing", 3, example(), 2, 1, ratio(2, 3), []int{2, 0}},
		{"itself", 3, example(), 1, 1, ratio(1, 1), nil},
		{"itself, without offers", 6, nil, 5, 5, ratio(1, 1), nil},
		{"itself, although a round has the rate 1", 3, example(), 0, 0, ratio(1, 1), nil},
		{"the fewest offers", 3, direct, 0, 2, ratio(3, 1), []int{3}},
		{"the first of two that are equal", 2, twins, 0, 1, ratio(2, 1), []int{1}},
		{"the lesser list", 4, square, 0, 3, ratio(6, 1), []int{1, 3}},
		{"in lowest terms", 2, []api.Offer{{From: 1, To: 0, Num: 30, Den: 42}}, 1, 0, ratio(5, 7), []int{0}},
	}
	for _, c := range cases {
		if got, w, e := rate.Best(c.n, c.offers, c.from, c.to); got != c.rate || !slices.Equal(w, c.walk) || e != api.OK {
			t.Error(c.what, got, w, e)
		}
	}
}

func TestP1_4BestErrors(t *testing.T) {
	outside := []int{math.MinInt, -1, 3, 6, math.MaxInt}
	expect := func(what string, offers []api.Offer, from, to int, want api.Errno) {
		t.Helper()
		if got, w, e := rate.Best(3, offers, from, to); !isZero(got) || len(w) != 0 || e != want {
			t.Error(what, from, to, got, w, e)
		}
		if got, e := rate.Spread(3, offers, from, to); !isZero(got) || e != want {
			t.Error("Spread:", what, from, to, got, e)
		}
	}
	for _, x := range outside {
		expect("no currency", example(), x, 0, api.ErrArg)
		expect("no currency", example(), 0, x, api.ErrArg)
		expect("no currency", nil, x, x, api.ErrArg)
		expect("no currency, and a gain", gaining(), x, 1, api.ErrArg)
		expect("no currency, and a gain", gaining(), 1, x, api.ErrArg)
	}
	for a := range 3 {
		for b := range 3 {
			expect("a gain", gaining(), a, b, api.ErrBound)
		}
	}
	expect("no walk", example()[:2], 2, 0, api.ErrPlan)
	expect("no walk", nil, 0, 1, api.ErrPlan)
	gainApart := []api.Offer{{From: 1, To: 2, Num: 3, Den: 1}, {From: 2, To: 1, Num: 1, Den: 2}}
	expect("no walk, and a gain elsewhere", gainApart, 0, 1, api.ErrBound)
	expect("a gain that is not reached", append(gainApart, api.Offer{From: 1, To: 0, Num: 1, Den: 1}), 0, 0, api.ErrBound)
}

func TestP1_4BestAgainstAllWalks(t *testing.T) {
	eachMarket(t, 400, func(t *testing.T, r *rand.Rand, n int) {
		offers, _ := fairOffers(r, n, r.IntN(13))
		for a := range n {
			for b := range n {
				most, walk := slowBest(n, offers, a, b)
				got, w, e := rate.Best(n, offers, a, b)
				if most == nil {
					if !isZero(got) || len(w) != 0 || e != api.ErrPlan {
						t.Fatal(n, offers, a, b, got, w, e)
					}
				} else if !equals(got, most) || !slices.Equal(w, walk) || e != api.OK {
					t.Fatal(n, offers, a, b, got, w, e, most, walk)
				}
			}
		}
	})
}

func TestP1_5Needless(t *testing.T) {
	cases := []struct {
		what   string
		n      int
		offers []api.Offer
		want   []int
	}{
		{"all are needed", 3, example(), nil},
		{"none", 3, nil, nil},
		{"another way is as good, or better", 3, append(example(), api.Offer{From: 0, To: 2, Num: 3, Den: 1}, api.Offer{From: 0, To: 2, Num: 2, Den: 1}), []int{3, 4}},
		{"another way is worse", 3, append(example()[:2], api.Offer{From: 0, To: 2, Num: 31, Den: 10}), nil},
		{"twins: each without the other one", 2, []api.Offer{{From: 0, To: 1, Num: 1, Den: 2}, {From: 0, To: 1, Num: 2, Den: 4}}, []int{0, 1}},
		{"the worse of two", 2, []api.Offer{{From: 0, To: 1, Num: 1, Den: 2}, {From: 0, To: 1, Num: 2, Den: 3}}, []int{0}},
		{"only turned around there is another", 2, []api.Offer{{From: 0, To: 1, Num: 1, Den: 2}, {From: 1, To: 0, Num: 1, Den: 2}}, nil},
		{"a direct one is as good as the way, and the way is needed for others", 3, []api.Offer{{From: 0, To: 2, Num: 6, Den: 2}, {From: 1, To: 2, Num: 3, Den: 2}, {From: 0, To: 1, Num: 2, Den: 1}}, []int{0}},
	}
	for _, c := range cases {
		if got, e := rate.Needless(c.n, c.offers); !slices.Equal(got, c.want) || e != api.OK {
			t.Error(c.what, got, e)
		}
	}
	if got, e := rate.Needless(3, gaining()); len(got) != 0 || e != api.ErrBound {
		t.Error(got, e)
	}
	if got, e := rate.Needless(3, append(gaining(), gaining()...)); len(got) != 0 || e != api.ErrBound {
		t.Error(got, e)
	}
}

func TestP1_5NeedlessAgainstAllWalks(t *testing.T) {
	eachMarket(t, 250, func(t *testing.T, r *rand.Rand, n int) {
		offers, _ := fairOffers(r, n, r.IntN(12))
		var want []int
		for i, o := range offers {
			if most, _ := slowBest(n, without(offers, i), o.From, o.To); most != nil && most.Cmp(offerRate(o)) >= 0 {
				want = append(want, i)
			}
		}
		if got, e := rate.Needless(n, offers); !slices.Equal(got, want) || e != api.OK {
			t.Fatal(n, offers, got, e, want)
		}
	})
}

func TestP1_6Change(t *testing.T) {
	offers := append(example(), api.Offer{From: 1, To: 0, Num: 1, Den: 2}, api.Offer{From: 0, To: 1, Num: 50, Den: 1}, api.Offer{From: 1, To: 0, Num: 1, Den: 50})
	cases := []struct {
		what   string
		walk   []int
		amount int
		want   int
	}{
		{"example 3", []int{0}, 5, 10},
		{"example 3", []int{0, 1}, 5, 15},
		{"rounded down", []int{1}, 5, 7},
		{"rounded down at each offer", []int{3, 0, 3, 0}, 5, 4},
		{"rounded down to nothing", []int{3, 0}, 1, 0},
		{"once around", []int{1, 2, 0}, 5, 4},
		{"currencies twice", []int{0, 3, 0, 1, 2, 0}, 7, 14},
		{"nothing", []int{0, 1, 2}, 0, 0},
		{"the empty walk", nil, 77, 77},
		{"the empty walk, and all", []int{}, api.MaxAmount, api.MaxAmount},
		{"the greatest amount", []int{3}, api.MaxAmount, api.MaxAmount / 2},
		{"up to the greatest amount", []int{0}, api.MaxAmount / 2, api.MaxAmount},
		{"twenty offers", slices.Repeat([]int{0, 3}, 10), api.MaxAmount / 2, api.MaxAmount / 2},
	}
	for _, c := range cases {
		if got, e := rate.Change(3, offers, c.walk, c.amount); got != c.want || e != api.OK {
			t.Error(c.what, c.walk, c.amount, got, e)
		}
	}
}

func TestP1_6ChangeErrors(t *testing.T) {
	offers := append(example(), api.Offer{From: 1, To: 0, Num: 1, Den: 2}, api.Offer{From: 0, To: 1, Num: 50, Den: 1}, api.Offer{From: 1, To: 0, Num: 1, Den: 50})
	cases := []struct {
		what   string
		walk   []int
		amount int
		want   api.Errno
	}{
		{"not a walk", []int{0, 2}, 5, api.ErrArg},
		{"not a walk at its end", []int{0, 1, 2, 1}, 5, api.ErrArg},
		{"not a walk, and nothing to change", []int{0, 0}, 0, api.ErrArg},
		{"no offer", []int{-1}, 5, api.ErrArg},
		{"no offer", []int{6}, 5, api.ErrArg},
		{"no offer", []int{0, math.MaxInt}, 5, api.ErrArg},
		{"no offer", []int{0, math.MinInt}, 5, api.ErrArg},
		{"more than twenty", slices.Repeat([]int{0, 3}, 11)[:21], 5, api.ErrArg},
		{"less than nothing", []int{0}, -1, api.ErrArg},
		{"less than nothing", nil, -1, api.ErrArg},
		{"less than nothing", nil, math.MinInt, api.ErrArg},
		{"too much", []int{3}, api.MaxAmount + 1, api.ErrArg},
		{"too much", nil, api.MaxAmount + 1, api.ErrArg},
		{"too much", []int{0}, math.MaxInt, api.ErrArg},
		{"too much after an offer", []int{0}, api.MaxAmount/2 + 1, api.ErrRange},
		{"too much after an offer", []int{4}, api.MaxAmount, api.ErrRange},
		{"too much in between", []int{0, 3}, api.MaxAmount/2 + 1, api.ErrRange},
		{"too much in between", []int{3, 4, 5, 4}, api.MaxAmount / 16, api.ErrRange},
		{"too much after an offer, and not a walk", []int{0, 2}, api.MaxAmount, api.ErrArg},
		{"too much after an offer, and no offer", []int{0, 6}, api.MaxAmount, api.ErrArg},
		{"too much after an offer, and more than twenty", slices.Repeat([]int{0, 3}, 11), api.MaxAmount, api.ErrArg},
	}
	for _, c := range cases {
		if got, e := rate.Change(3, offers, c.walk, c.amount); got != 0 || e != c.want {
			t.Error(c.what, c.walk, c.amount, got, e)
		}
	}
	// A gain elsewhere, or on the way, is no error.
	if got, e := rate.Change(3, gaining(), []int{0, 1, 2}, 10); got != 15 || e != api.OK {
		t.Error(got, e)
	}
}

func TestP1_7Spread(t *testing.T) {
	offers := []api.Offer{{From: 0, To: 1, Num: 4, Den: 3}, {From: 1, To: 0, Num: 2, Den: 3}, {From: 1, To: 2, Num: 5, Den: 1}, {From: 2, To: 0, Num: 1, Den: 7}}
	cases := []struct {
		a, b int
		want api.Ratio
	}{
		{0, 1, ratio(20, 21)}, // back by 2: 5/7 is more than 2/3
		{1, 0, ratio(20, 21)},
		{0, 2, ratio(20, 21)},
		{2, 1, ratio(20, 21)},
		{1, 1, ratio(1, 1)},
		{0, 0, ratio(1, 1)},
	}
	for _, c := range cases {
		if got, e := rate.Spread(3, offers, c.a, c.b); got != c.want || e != api.OK {
			t.Error(c, got, e)
		}
	}
	if got, e := rate.Spread(3, example(), 0, 2); got != ratio(1, 1) || e != api.OK {
		t.Error(got, e)
	}
	if got, e := rate.Spread(2, offers[:2], 0, 1); got != ratio(8, 9) || e != api.OK {
		t.Error(got, e)
	}
	for _, pair := range [][2]int{{0, 1}, {1, 0}} { // there is a walk in one direction only
		if got, e := rate.Spread(2, offers[:1], pair[0], pair[1]); !isZero(got) || e != api.ErrPlan {
			t.Error(pair, got, e)
		}
	}
}

// Ten offers there and back: a product near 50^10.
func TestP1_7SpreadLarge(t *testing.T) {
	var offers []api.Offer
	for c := range 5 {
		offers = append(offers, api.Offer{From: c, To: c + 1, Num: 47, Den: 50}, api.Offer{From: c + 1, To: c, Num: 49, Den: 50})
	}
	got, e := rate.Spread(6, offers, 0, 5)
	want := walkRate(offers, []int{0, 1, 2, 3, 4, 5, 6, 7, 8, 9})
	if !equals(got, want) || e != api.OK {
		t.Error(got, e, want)
	}
}
