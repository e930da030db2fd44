// Package rate is layer 1: exchange rates as they are offered, the prices that agree with all of them, or the round of exchanges that makes money of nothing (see shared/doc/01-rate.md).
package rate

import (
	"slices"

	"cocket/api"
)

// Best returns the greatest rate of a walk from one currency to another one, and such a walk: the one with the fewest offers, and of several the lexicographically least.
func Best(n int, offers []api.Offer, from, to int) (api.Ratio, []int, api.Errno) {
	if e := check(n, offers); e != api.OK {
		return api.Ratio{}, nil, e
	}
	if !isCurrency(n, from) || !isCurrency(n, to) {
		return api.Ratio{}, nil, api.ErrArg
	}
	b := leanBoard(n, offers, noOffer)
	if b.hasGain() {
		return api.Ratio{}, nil, api.ErrBound
	}
	t, ok := b.best(from, to)
	if !ok {
		return api.Ratio{}, nil, api.ErrPlan
	}
	return t.rate.lowest(), t.walk(), api.OK
}

// Prices returns, for each currency, the greatest rate of a walk that begins with it.
func Prices(n int, offers []api.Offer) ([]api.Ratio, api.Errno) {
	if e := check(n, offers); e != api.OK {
		return nil, e
	}
	b := leanBoard(n, offers, noOffer)
	if b.hasGain() {
		return nil, api.ErrPlan
	}
	prices := make([]api.Ratio, n)
	for currency := range n {
		most := one
		for t := range b.trails(currency) {
			if t.rate.above(most) {
				most = t.rate
			}
		}
		prices[currency] = most.lowest()
	}
	return prices, api.OK
}

// Agree reports whether nobody gains by any offer at these prices.
func Agree(n int, offers []api.Offer, prices []api.Ratio) (bool, api.Errno) {
	if e := check(n, offers); e != api.OK {
		return false, e
	}
	if len(prices) != n {
		return false, api.ErrArg
	}
	for _, p := range prices {
		if !isPrice(p) {
			return false, api.ErrArg
		}
	}
	for _, o := range offers {
		from, to := fraction(prices[o.From]), fraction(prices[o.To])
		if rateOf(o).times(to).above(from) {
			return false, api.OK
		}
	}
	return true, api.OK
}

// Round returns the round with a rate above 1 that has the fewest offers, and of several the lexicographically least list.
func Round(n int, offers []api.Offer) ([]int, api.Errno) {
	if e := check(n, offers); e != api.OK {
		return nil, e
	}
	// The lean board tells at once that there is none; a full one would try every mixture of parallel offers first.
	if !leanBoard(n, offers, noOffer).hasGain() {
		return nil, api.ErrPlan
	}
	t, _ := fullBoard(n, offers).gain()
	return t.walk(), api.OK
}

// Gains reports whether the walk is a round with a rate above 1.
func Gains(n int, offers []api.Offer, walk []int) (bool, api.Errno) {
	if e := check(n, offers); e != api.OK {
		return false, e
	}
	if len(walk) == 0 || !isWalk(offers, walk) {
		return false, api.OK
	}
	t, ok := begin(offers[walk[0]].From), true
	for _, i := range walk {
		if t, ok = t.with(i, offers[i]); !ok {
			return false, api.OK
		}
	}
	return t.gains(), api.OK
}

// Needless returns the offers without any one of which Best of its currencies is at least its rate.
func Needless(n int, offers []api.Offer) ([]int, api.Errno) {
	if e := check(n, offers); e != api.OK {
		return nil, e
	}
	if leanBoard(n, offers, noOffer).hasGain() {
		return nil, api.ErrBound
	}
	var list []int
	for i, o := range offers {
		t, ok := leanBoard(n, offers, i).best(o.From, o.To)
		if ok && !rateOf(o).above(t.rate) {
			list = append(list, i)
		}
	}
	return list, api.OK
}

// Change returns what becomes of an amount along a walk, rounded down at each offer.
func Change(n int, offers []api.Offer, walk []int, amount int) (int, api.Errno) {
	if e := check(n, offers); e != api.OK {
		return 0, e
	}
	if len(walk) > api.MaxWalk || !isWalk(offers, walk) || amount < 0 || amount > api.MaxAmount {
		return 0, api.ErrArg
	}
	for _, i := range walk {
		amount = amount * offers[i].Num / offers[i].Den
		if amount > api.MaxAmount {
			return 0, api.ErrRange
		}
	}
	return amount, api.OK
}

// Spread returns what is left of 1 that is changed into another currency and back, both at the best rate.
func Spread(n int, offers []api.Offer, a, b int) (api.Ratio, api.Errno) {
	there, _, e := Best(n, offers, a, b)
	if e != api.OK {
		return api.Ratio{}, e
	}
	back, _, e := Best(n, offers, b, a)
	if e != api.OK {
		return api.Ratio{}, e
	}
	return fraction(there).times(fraction(back)).lowest(), api.OK
}

// check returns the error that every function returns first.
func check(n int, offers []api.Offer) api.Errno {
	if n < 2 || n > api.MaxCurrencies {
		return api.ErrArg
	}
	if len(offers) > api.MaxOffers {
		return api.ErrLimit
	}
	if slices.ContainsFunc(offers, func(o api.Offer) bool { return !isOffer(n, o) }) {
		return api.ErrArg
	}
	return api.OK
}

func isCurrency(n, currency int) bool {
	return currency >= 0 && currency < n
}

func isOffer(n int, o api.Offer) bool {
	return isCurrency(n, o.From) && isCurrency(n, o.To) && o.From != o.To &&
		o.Num >= 1 && o.Num <= api.MaxRate && o.Den >= 1 && o.Den <= api.MaxRate
}

func isPrice(p api.Ratio) bool {
	return p.Num >= 1 && p.Num <= api.MaxPrice && p.Den >= 1 && p.Den <= api.MaxPrice &&
		fraction(p).lowest() == p
}

// isWalk reports whether each index is one of an offer, and each offer begins with the currency with which the one before ends.
func isWalk(offers []api.Offer, walk []int) bool {
	for turn, i := range walk {
		if i < 0 || i >= len(offers) {
			return false
		}
		if turn > 0 && offers[walk[turn-1]].To != offers[i].From {
			return false
		}
	}
	return true
}
