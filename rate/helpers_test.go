package rate_test

import (
	"math/big"
	"math/rand/v2"
	"slices"
	"testing"

	"cocket/api"
)

// The tests call the package only as its users do, and hold it against slow answers of their own: exact rationals, and every walk tried.

// example is example 1 of the chapter: the round 0 1 2 has the rate 1.
func example() []api.Offer {
	return []api.Offer{{From: 0, To: 1, Num: 2, Den: 1}, {From: 1, To: 2, Num: 3, Den: 2}, {From: 2, To: 0, Num: 1, Den: 3}}
}

// gaining is example 2: the round 0 1 2 has the rate 3/2.
func gaining() []api.Offer {
	offers := example()
	offers[2].Den = 2
	return offers
}

func ratio(num, den int) api.Ratio {
	return api.Ratio{Num: num, Den: den}
}

func repeated(o api.Offer, times int) []api.Offer {
	return slices.Repeat([]api.Offer{o}, times)
}

func isZero(r api.Ratio) bool {
	return r == api.Ratio{}
}

func rational(r api.Ratio) *big.Rat {
	return big.NewRat(int64(r.Num), int64(r.Den))
}

func offerRate(o api.Offer) *big.Rat {
	return big.NewRat(int64(o.Num), int64(o.Den))
}

func walkRate(offers []api.Offer, walk []int) *big.Rat {
	rate := big.NewRat(1, 1)
	for _, i := range walk {
		rate.Mul(rate, offerRate(offers[i]))
	}
	return rate
}

func product(a, b *big.Rat) *big.Rat {
	return new(big.Rat).Mul(a, b)
}

func whole(n int) *big.Rat {
	return big.NewRat(int64(n), 1)
}

// equals reports whether r is the rational, in lowest terms.
func equals(r api.Ratio, want *big.Rat) bool {
	return r.Den > 0 && want.Num().IsInt64() && want.Denom().IsInt64() &&
		int64(r.Num) == want.Num().Int64() && int64(r.Den) == want.Denom().Int64()
}

// isRound tells by the chapter's words whether a walk is a round.
func isRound(offers []api.Offer, walk []int) bool {
	seen := map[int]bool{}
	for k, i := range walk {
		before := walk[(k+len(walk)-1)%len(walk)]
		if offers[before].To != offers[i].From || seen[offers[i].From] {
			return false
		}
		seen[offers[i].From] = true
	}
	return len(walk) > 0
}

// simpleWalks lists all walks from one currency (or from any, if it is negative) that come to no currency twice, but that they may end where they begin.
func simpleWalks(n int, offers []api.Offer, from int) [][]int {
	var list [][]int
	var extend func(walk []int, start, end int, seen [6]bool)
	extend = func(walk []int, start, end int, seen [6]bool) {
		list = append(list, slices.Clone(walk))
		if seen[start] {
			return
		}
		for i, o := range offers {
			if o.From == end && !seen[o.To] {
				next := seen
				next[o.To] = true
				extend(append(slices.Clone(walk), i), start, o.To, next)
			}
		}
	}
	for c := range n {
		if from < 0 || from == c {
			extend(nil, c, c, [6]bool{})
		}
	}
	return list
}

// byShortness orders walks by their numbers of offers, and then lexicographically.
func byShortness(a, b []int) int {
	if len(a) != len(b) {
		return len(a) - len(b)
	}
	return slices.Compare(a, b)
}

// slowRound is the answer of Round, by trying all rounds; nil if there is none.
func slowRound(n int, offers []api.Offer) []int {
	var best []int
	for _, w := range simpleWalks(n, offers, -1) {
		if isRound(offers, w) && walkRate(offers, w).Cmp(whole(1)) > 0 && (best == nil || byShortness(w, best) < 0) {
			best = w
		}
	}
	return best
}

// slowBest is the answer of Best where no round gains, by trying all walks; the rate is nil if there is none.
func slowBest(n int, offers []api.Offer, from, to int) (*big.Rat, []int) {
	var most *big.Rat
	var walk []int
	for _, w := range simpleWalks(n, offers, from) {
		end := from
		if len(w) > 0 {
			end = offers[w[len(w)-1]].To
		}
		if end != to {
			continue
		}
		rate := walkRate(offers, w)
		if most == nil || rate.Cmp(most) > 0 || rate.Cmp(most) == 0 && byShortness(w, walk) < 0 {
			most, walk = rate, w
		}
	}
	return most, walk
}

func source() *rand.Rand {
	return rand.New(rand.NewPCG(1, 2))
}

// anyOffers makes offers that may gain.
func anyOffers(r *rand.Rand, n, count, most int) []api.Offer {
	offers := make([]api.Offer, count)
	for i := range offers {
		from := r.IntN(n)
		offers[i] = api.Offer{From: from, To: (from + 1 + r.IntN(n-1)) % n, Num: 1 + r.IntN(most), Den: 1 + r.IntN(most)}
	}
	return offers
}

// fairOffers makes offers that agree with prices that it makes, too; many of them exactly.
func fairOffers(r *rand.Rand, n, count int) ([]api.Offer, []api.Ratio) {
	worth := make([]int, n)
	prices := make([]api.Ratio, n)
	for c := range worth {
		worth[c] = 1 + r.IntN(7)
		prices[c] = ratio(worth[c], 1)
	}
	offers := anyOffers(r, n, count, 7)
	for i := range offers {
		o := &offers[i]
		times := 1 + r.IntN(7)
		o.Num, o.Den = worth[o.From]*times, worth[o.To]*times
		if r.IntN(3) == 0 {
			o.Num = 1 + r.IntN(o.Num)
		}
	}
	return offers, prices
}

// without returns the offers without one of them.
func without(offers []api.Offer, i int) []api.Offer {
	return slices.Delete(slices.Clone(offers), i, i+1)
}

// fullRing makes 40 offers round all six currencies. Of their 86,436 rounds only one can gain: that of the last six offers, whose last one has this rate.
func fullRing(num, den int) []api.Offer {
	var offers []api.Offer
	for i := range api.MaxOffers {
		o := api.Offer{From: i % 6, To: (i + 1) % 6, Num: 1, Den: 2}
		if i >= api.MaxOffers-6 {
			o.Den = 1
		}
		offers = append(offers, o)
	}
	last := &offers[api.MaxOffers-1]
	last.Num, last.Den = num, den
	return offers
}

func eachMarket(t *testing.T, times int, check func(t *testing.T, r *rand.Rand, n int)) {
	t.Helper()
	r := source()
	for range times {
		check(t, r, 2+r.IntN(5))
		if t.Failed() {
			return
		}
	}
}
