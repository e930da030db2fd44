package rate_test

import (
	"math/big"
	"math/rand/v2"
	"slices"
	"testing"

	"cocket/api"
	"cocket/rate"
)

// someOffers makes offers of which about half the lists gain.
func someOffers(r *rand.Rand, n int) []api.Offer {
	if r.IntN(2) == 0 {
		offers, _ := fairOffers(r, n, r.IntN(41))
		return offers
	}
	return anyOffers(r, n, r.IntN(2*n), 50)
}

func TestP1_8NoGainOfNothing(t *testing.T) {
	both := [2]int{}
	eachMarket(t, 1500, func(t *testing.T, r *rand.Rand, n int) {
		offers := someOffers(r, n)
		prices, noPrices := rate.Prices(n, offers)
		round, noRound := rate.Round(n, offers)
		if (noPrices == api.OK) == (noRound == api.OK) {
			t.Fatal(n, offers, prices, noPrices, round, noRound)
		}
		if noRound == api.OK {
			both[0]++
			if gains, e := rate.Gains(n, offers, round); !gains || e != api.OK {
				t.Fatal(n, offers, round, gains, e)
			}
			return
		}
		both[1]++
		if agree, e := rate.Agree(n, offers, prices); !agree || e != api.OK {
			t.Fatal(n, offers, prices, agree, e)
		}
	})
	if both[0] < 100 || both[1] < 100 {
		t.Error("the lists of offers are too much alike", both)
	}
}

func TestP1_8AgreeMeansNoGain(t *testing.T) {
	eachMarket(t, 200, func(t *testing.T, r *rand.Rand, n int) {
		offers, prices := fairOffers(r, n, r.IntN(12))
		if agree, e := rate.Agree(n, offers, prices); !agree || e != api.OK {
			t.Fatal(n, offers, prices, agree, e)
		}
		for _, w := range simpleWalks(n, offers, -1) {
			if gains, e := rate.Gains(n, offers, w); gains || e != api.OK {
				t.Fatal(n, offers, w, gains, e)
			}
		}
	})
}

func TestP1_8PricesAreTheLeast(t *testing.T) {
	eachMarket(t, 500, func(t *testing.T, r *rand.Rand, n int) {
		offers, others := fairOffers(r, n, r.IntN(41))
		prices, e := rate.Prices(n, offers)
		if e != api.OK {
			t.Fatal(n, offers, e)
		}
		for c := range n {
			if rational(others[c]).Cmp(rational(prices[c])) < 0 || rational(prices[c]).Cmp(whole(1)) < 0 {
				t.Fatal(n, offers, others, prices)
			}
			if prices[c] == ratio(1, 1) {
				continue
			}
			lower := slices.Clone(prices)
			lower[c] = lowered(prices[c])
			if agree, e := rate.Agree(n, offers, lower); agree || e != api.OK {
				t.Fatal(n, offers, lower, prices, agree, e)
			}
		}
	})
}

// lowered is between 1 and a price above 1, near the price.
func lowered(p api.Ratio) api.Ratio {
	x := rational(p)
	x.Mul(x, big.NewRat(999, 1000)).Add(x, big.NewRat(1, 1000))
	return ratio(int(x.Num().Int64()), int(x.Denom().Int64()))
}

func TestP1_9BestRates(t *testing.T) {
	eachMarket(t, 150, func(t *testing.T, r *rand.Rand, n int) {
		offers, prices := fairOffers(r, n, r.IntN(41))
		best := func(a, b int) (*big.Rat, bool) {
			x, _, e := rate.Best(n, offers, a, b)
			if e == api.OK {
				return rational(x), true
			}
			return nil, false
		}
		for a := range n {
			for b := range n {
				there, ok := best(a, b)
				if !ok {
					continue
				}
				if limit := new(big.Rat).Quo(rational(prices[a]), rational(prices[b])); there.Cmp(limit) > 0 {
					t.Fatal("above the quotient of prices", n, offers, a, b)
				}
				if s, e := rate.Spread(n, offers, a, b); e == api.OK && (rational(s).Cmp(whole(1)) > 0 || s.Num < 1) {
					t.Fatal("a spread above 1", n, offers, a, b, s)
				}
				for c := range n {
					on, ok := best(b, c)
					if !ok {
						continue
					}
					if all, ok := best(a, c); !ok || all.Cmp(product(there, on)) < 0 {
						t.Fatal("a way round is better", n, offers, a, b, c)
					}
				}
			}
		}
		for _, o := range offers {
			if x, ok := best(o.From, o.To); !ok || x.Cmp(offerRate(o)) < 0 {
				t.Fatal("an offer is better", n, offers, o)
			}
		}
	})
}

func TestP1_10RoundingNeverGains(t *testing.T) {
	eachMarket(t, 800, func(t *testing.T, r *rand.Rand, n int) {
		offers := anyOffers(r, n, 1+r.IntN(40), 50)
		walk := randomWalk(r, offers, r.IntN(21))
		amount := r.IntN(1 << (1 + r.IntN(40)))
		got, e := rate.Change(n, offers, walk, amount)
		if e == api.ErrRange {
			return
		}
		if e != api.OK || got < 0 || whole(got).Cmp(product(whole(amount), walkRate(offers, walk))) > 0 {
			t.Fatal(n, offers, walk, amount, got, e)
		}
	})
	eachMarket(t, 150, func(t *testing.T, r *rand.Rand, n int) {
		offers, _ := fairOffers(r, n, r.IntN(10))
		for _, w := range simpleWalks(n, offers, -1) {
			amount := r.IntN(100000)
			if got, e := rate.Change(n, offers, w, amount); isRound(offers, w) && (e != api.OK || got > amount) {
				t.Fatal(n, offers, w, amount, got, e)
			}
		}
	})
}

// randomWalk goes on from offer to offer as long as there are some, up to a number of them.
func randomWalk(r *rand.Rand, offers []api.Offer, most int) []int {
	var walk []int
	for len(walk) < most {
		i := r.IntN(len(offers))
		if len(walk) == 0 || offers[walk[len(walk)-1]].To == offers[i].From {
			walk = append(walk, i)
			continue
		}
		if !slices.ContainsFunc(offers, func(o api.Offer) bool { return o.From == offers[walk[len(walk)-1]].To }) {
			return walk
		}
	}
	return walk
}

func turned(offers []api.Offer) []api.Offer {
	var list []api.Offer
	for _, o := range offers {
		list = append(list, api.Offer{From: o.To, To: o.From, Num: o.Den, Den: o.Num})
	}
	return list
}

func reversed(walk []int) []int {
	list := slices.Clone(walk)
	slices.Reverse(list)
	return list
}

func TestP1_11TurnedAround(t *testing.T) {
	gains := 0
	eachMarket(t, 600, func(t *testing.T, r *rand.Rand, n int) {
		offers := anyOffers(r, n, 1+r.IntN(8), 6)
		back := turned(offers)
		for _, w := range simpleWalks(n, offers, -1) {
			if !isRound(offers, w) {
				continue
			}
			there, e := rate.Gains(n, offers, w)
			if e != api.OK {
				t.Fatal(n, offers, w, e)
			}
			again, e := rate.Gains(n, back, reversed(w))
			if e != api.OK || there && again || again != (walkRate(offers, w).Cmp(whole(1)) < 0) {
				t.Fatal(n, offers, w, there, again, e)
			}
		}
		round, e := rate.Round(n, offers)
		if e != api.OK {
			return
		}
		gains++
		if !isRound(back, reversed(round)) || walkRate(back, reversed(round)).Cmp(whole(1)) >= 0 {
			t.Fatal(n, offers, round)
		}
	})
	if gains < 50 {
		t.Error("too few rounds", gains)
	}
}

func TestP1_11Renumbered(t *testing.T) {
	eachMarket(t, 150, func(t *testing.T, r *rand.Rand, n int) {
		offers := someOffers(r, n)
		number := r.Perm(n)
		renumbered := slices.Clone(offers)
		for i, o := range offers {
			renumbered[i].From, renumbered[i].To = number[o.From], number[o.To]
		}
		prices, e := rate.Prices(n, offers)
		others, f := rate.Prices(n, renumbered)
		if e != f {
			t.Fatal(n, offers, number, e, f)
		}
		for c := range prices {
			if prices[c] != others[number[c]] {
				t.Fatal(n, offers, number, prices, others)
			}
		}
		for a := range n {
			for b := range n {
				x, w, e := rate.Best(n, offers, a, b)
				y, v, f := rate.Best(n, renumbered, number[a], number[b])
				if x != y || e != f || !slices.Equal(w, v) {
					t.Fatal(n, offers, number, a, b, x, y, w, v, e, f)
				}
			}
		}
		round, e := rate.Round(n, offers)
		other, f := rate.Round(n, renumbered)
		if e != f || !slices.Equal(round, other) {
			t.Fatal(n, offers, number, round, other, e, f)
		}
	})
}

func TestP1_12Needless(t *testing.T) {
	named := 0
	eachMarket(t, 60, func(t *testing.T, r *rand.Rand, n int) {
		offers, _ := fairOffers(r, n, r.IntN(25))
		list, e := rate.Needless(n, offers)
		if e != api.OK {
			t.Fatal(n, offers, e)
		}
		named += len(list)
		for _, i := range list {
			less := without(offers, i)
			for a := range n {
				for b := range n {
					x, _, e := rate.Best(n, offers, a, b)
					y, _, f := rate.Best(n, less, a, b)
					if x != y || e != f {
						t.Fatal(n, offers, i, a, b, x, y, e, f)
					}
				}
			}
		}
	})
	if named < 100 {
		t.Error("too few needless offers", named)
	}
}
