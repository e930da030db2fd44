package rate_test

import (
	"math"
	"slices"
	"testing"

	"cocket/api"
	"cocket/rate"
)

// outcome is an error, and whether every other result was its zero value.
type outcome struct {
	e    api.Errno
	zero bool
}

// calls makes a call of each function for these currencies and offers, with other arguments that suit n = 3; with wrong ones if bad is true.
func calls(n int, offers []api.Offer, bad bool) map[string]outcome {
	currency, walk, prices := 1, []int{0}, []api.Ratio{ratio(3, 1), ratio(3, 2), ratio(1, 1)}
	if bad {
		currency, walk, prices = -1, []int{-1}, nil
	}
	all := map[string]outcome{}
	best, list, e := rate.Best(n, offers, currency, 2)
	all["Best"] = outcome{e, isZero(best) && len(list) == 0}
	ratios, e := rate.Prices(n, offers)
	all["Prices"] = outcome{e, len(ratios) == 0}
	yes, e := rate.Agree(n, offers, prices)
	all["Agree"] = outcome{e, !yes}
	list, e = rate.Round(n, offers)
	all["Round"] = outcome{e, len(list) == 0}
	yes, e = rate.Gains(n, offers, walk)
	all["Gains"] = outcome{e, !yes}
	list, e = rate.Needless(n, offers)
	all["Needless"] = outcome{e, len(list) == 0}
	amount, e := rate.Change(n, offers, walk, 5)
	all["Change"] = outcome{e, amount == 0}
	spread, e := rate.Spread(n, offers, 2, currency)
	all["Spread"] = outcome{e, isZero(spread)}
	return all
}

func expectAll(t *testing.T, what string, n int, offers []api.Offer, want api.Errno) {
	t.Helper()
	for _, bad := range []bool{false, true} {
		for name, got := range calls(n, offers, bad) {
			if got.e != want || !got.zero {
				t.Errorf("%s: %s (other arguments wrong: %v): error %d, zero %v; want %d and zero values", what, name, bad, got.e, got.zero, want)
			}
		}
	}
}

func badOffers() []api.Offer {
	return []api.Offer{
		{From: -1, To: 1, Num: 1, Den: 1},
		{From: 3, To: 1, Num: 1, Den: 1},
		{From: 0, To: -1, Num: 1, Den: 1},
		{From: 0, To: 3, Num: 1, Den: 1},
		{From: 1, To: 1, Num: 1, Den: 1},
		{From: 0, To: 1, Num: 0, Den: 1},
		{From: 0, To: 1, Num: 51, Den: 1},
		{From: 0, To: 1, Num: -1, Den: -1},
		{From: 0, To: 1, Num: 1, Den: 0},
		{From: 0, To: 1, Num: 1, Den: 51},
		{From: math.MinInt, To: math.MaxInt, Num: 1, Den: 1},
		{From: 0, To: 1, Num: math.MinInt, Den: math.MaxInt},
		{From: 0, To: 1, Num: math.MaxInt, Den: math.MinInt},
		{},
	}
}

// The errors that all functions return first, and in which order.
func TestErrorsOfAll(t *testing.T) {
	for _, n := range []int{math.MinInt, -1, 0, 1, 7, math.MaxInt} {
		expectAll(t, "n", n, nil, api.ErrArg)
		expectAll(t, "n, and too many offers", n, repeated(example()[0], 41), api.ErrArg)
		expectAll(t, "n, and a bad offer", n, repeated(api.Offer{}, 1), api.ErrArg)
	}
	expectAll(t, "too many offers", 3, repeated(example()[0], 41), api.ErrLimit)
	expectAll(t, "too many offers", 3, repeated(example()[0], 1000), api.ErrLimit)
	expectAll(t, "too many offers, all bad", 3, repeated(api.Offer{}, 41), api.ErrLimit)
	for _, bad := range badOffers() {
		expectAll(t, "a bad offer", 3, []api.Offer{bad}, api.ErrArg)
		expectAll(t, "a bad offer at the end", 3, append(example(), bad), api.ErrArg)
		expectAll(t, "a bad offer at the beginning", 3, append([]api.Offer{bad}, gaining()...), api.ErrArg)
	}
	expectAll(t, "a currency that is not there", 2, example(), api.ErrArg)
}

// What is just within the limits is no error.
func TestLimitsAreAllowed(t *testing.T) {
	many := repeated(api.Offer{From: 1, To: 2, Num: 50, Den: 50}, 40)
	for name, got := range calls(3, many, false) {
		want := api.OK
		if name == "Round" || name == "Spread" {
			want = api.ErrPlan
		}
		if got.e != want {
			t.Errorf("%s of 40 offers: %d", name, got.e)
		}
	}
	wide := []api.Offer{{From: 5, To: 0, Num: 50, Den: 1}, {From: 0, To: 5, Num: 1, Den: 50}}
	if p, e := rate.Prices(6, wide); e != api.OK || len(p) != 6 || p[5] != ratio(50, 1) || p[0] != ratio(1, 1) {
		t.Error(p, e)
	}
	two := []api.Offer{{From: 0, To: 1, Num: 1, Den: 2}, {From: 1, To: 0, Num: 2, Den: 1}}
	if p, e := rate.Prices(2, two); e != api.OK || !slices.Equal(p, []api.Ratio{ratio(1, 1), ratio(2, 1)}) {
		t.Error(p, e)
	}
	if p, e := rate.Prices(2, nil); e != api.OK || !slices.Equal(p, []api.Ratio{ratio(1, 1), ratio(1, 1)}) {
		t.Error(p, e)
	}
}

// P1: no argument makes a function panic or go on for ever.
func TestP1AnyArguments(t *testing.T) {
	numbers := []int{math.MinInt, math.MinInt + 1, -7, -1, 0, 1, 2, 3, 5, 6, 7, 39, 40, 41, 1 << 40, 1<<40 + 1, math.MaxInt}
	lists := [][]api.Offer{nil, {}, example(), gaining(), badOffers(), repeated(example()[1], 41), fullRing(3, 2)}
	for _, n := range numbers {
		for _, offers := range lists {
			rate.Prices(n, offers)
			rate.Round(n, offers)
			rate.Needless(n, offers)
			rate.Agree(n, offers, nil)
			rate.Gains(n, offers, nil)
			rate.Change(n, offers, nil, n)
			for _, a := range numbers {
				for _, b := range numbers {
					rate.Agree(n, offers, slices.Repeat([]api.Ratio{ratio(a, b)}, 3))
				}
				rate.Best(n, offers, a, 0)
				rate.Best(n, offers, 0, a)
				rate.Spread(n, offers, a, n)
				rate.Gains(n, offers, []int{a, 0, a})
				rate.Gains(n, offers, slices.Repeat([]int{0}, 100000))
				rate.Change(n, offers, []int{0, a}, a)
				rate.Change(n, offers, slices.Repeat([]int{0}, 100000), a)
			}
		}
	}
}

// P1: a market with very many rounds comes to an end, whether one of them gains or not.
func TestP1ManyRounds(t *testing.T) {
	none := fullRing(1, 1)
	if w, e := rate.Round(6, none); e != api.ErrPlan || len(w) != 0 {
		t.Error(w, e)
	}
	var worse []int
	for i := range 34 {
		worse = append(worse, i)
	}
	if w, e := rate.Needless(6, none); e != api.OK || !slices.Equal(w, worse) {
		t.Error(w, e)
	}
	if w, e := rate.Round(6, fullRing(3, 2)); e != api.OK || !slices.Equal(w, []int{34, 35, 36, 37, 38, 39}) {
		t.Error(w, e)
	}
}

// snapshot is all that the functions say of a market, as a list of numbers.
func snapshot(n int, offers []api.Offer, prices []api.Ratio, walk []int) []int {
	var all []int
	note := func(e api.Errno, numbers ...int) {
		all = append(append(all, int(e), len(numbers)), numbers...)
	}
	flag := func(b bool) int {
		if b {
			return 1
		}
		return 0
	}
	ps, e := rate.Prices(n, offers)
	for _, p := range ps {
		note(e, p.Num, p.Den)
	}
	w, e := rate.Round(n, offers)
	note(e, w...)
	w, e = rate.Needless(n, offers)
	note(e, w...)
	for a := range n {
		for b := range n {
			r, w, e := rate.Best(n, offers, a, b)
			note(e, append([]int{r.Num, r.Den}, w...)...)
			r, e = rate.Spread(n, offers, a, b)
			note(e, r.Num, r.Den)
		}
	}
	yes, e := rate.Agree(n, offers, prices)
	note(e, flag(yes))
	yes, e = rate.Gains(n, offers, walk)
	note(e, flag(yes))
	amount, e := rate.Change(n, offers, walk, 1000)
	note(e, amount)
	return all
}

// P2: the same arguments have the same results, whatever was called before; and no call changes its arguments.
func TestP2OnlyArguments(t *testing.T) {
	r := source()
	for range 60 {
		n := 2 + r.IntN(5)
		offers, prices := fairOffers(r, n, 1+r.IntN(40))
		if r.IntN(2) == 0 {
			offers = anyOffers(r, n, 1+r.IntN(40), 50)
		}
		walk := []int{0}
		keptOffers, keptPrices := slices.Clone(offers), slices.Clone(prices)
		first := snapshot(n, offers, prices, walk)
		snapshot(6, anyOffers(r, 6, 40, 50), nil, nil)
		if !slices.Equal(first, snapshot(n, offers, prices, walk)) {
			t.Fatal("another answer to the same question", n, offers)
		}
		if !slices.Equal(offers, keptOffers) || !slices.Equal(prices, keptPrices) || walk[0] != 0 {
			t.Fatal("an argument was changed", n, keptOffers)
		}
	}
}

// What a caller does with a result changes no other result, and no argument.
func TestResultsAreNewMemory(t *testing.T) {
	offers, gain := example(), gaining()
	first, _ := rate.Prices(3, offers)
	first[0] = ratio(9, 1)
	if again, _ := rate.Prices(3, offers); again[0] != ratio(3, 1) {
		t.Error(again)
	}
	_, walk, _ := rate.Best(3, offers, 0, 2)
	walk[0] = 9
	if _, again, _ := rate.Best(3, offers, 0, 2); !slices.Equal(again, []int{0, 1}) {
		t.Error(again)
	}
	round, _ := rate.Round(3, gain)
	round[0] = 9
	if again, _ := rate.Round(3, gain); !slices.Equal(again, []int{0, 1, 2}) {
		t.Error(again)
	}
	double := append(example(), example()...)
	list, _ := rate.Needless(3, double)
	list[0] = 9
	if again, _ := rate.Needless(3, double); !slices.Equal(again, []int{0, 1, 2, 3, 4, 5}) {
		t.Error(again)
	}
	if !slices.Equal(offers, example()) || !slices.Equal(gain, gaining()) {
		t.Error(offers, gain)
	}
}
