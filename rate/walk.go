package rate

import (
	"iter"
	"slices"

	"cocket/api"
)

// trail is a walk that comes to no currency twice, but that it may end where it begins.
// It is a value without slices, so that what one trail grows into leaves the others alone.
type trail struct {
	list       [api.MaxCurrencies]int
	size       int
	start, end int
	reached    [api.MaxCurrencies]bool
	least      int // no offer with a lower index is taken
	rate       fraction
}

func begin(currency int) trail {
	return trail{start: currency, end: currency, rate: one}
}

func (t trail) closed() bool {
	return t.size > 0 && t.start == t.end
}

func (t trail) gains() bool {
	return t.closed() && t.rate.above(one)
}

func (t trail) walk() []int {
	return slices.Clone(t.list[:t.size])
}

// with returns the trail with one more offer, which begins where it ends, and whether that is a trail.
// The start does not count as reached: the one way back to it closes the trail.
func (t trail) with(i int, o api.Offer) (trail, bool) {
	if t.closed() || t.reached[o.To] || i < t.least {
		return trail{}, false
	}
	t.list[t.size] = i
	t.size++
	t.end = o.To
	t.reached[o.To] = true
	t.rate = t.rate.times(rateOf(o))
	return t, true
}

// board is the offers that walks may use, all of them and by the currency with which they begin; their indices ascend.
type board struct {
	n      int
	offers []api.Offer
	all    []int
	from   [api.MaxCurrencies][]int
}

// noOffer is the index of no offer.
const noOffer = -1

func (b *board) add(i int) {
	b.all = append(b.all, i)
	currency := b.offers[i].From
	b.from[currency] = append(b.from[currency], i)
}

func fullBoard(n int, offers []api.Offer) *board {
	b := &board{n: n, offers: offers}
	for i := range offers {
		b.add(i)
	}
	return b
}

// leanBoard has, of the offers between the same two currencies, only the first of the best ones; and not the offer without.
// That is all that greatest rates need: a walk that takes another offer gains nothing by it, and has a greater list if it loses nothing.
func leanBoard(n int, offers []api.Offer, without int) *board {
	var best [api.MaxCurrencies][api.MaxCurrencies]int // indices, plus 1: 0 is none yet
	for i, o := range offers {
		rival := best[o.From][o.To]
		if i != without && (rival == 0 || rateOf(o).above(rateOf(offers[rival-1]))) {
			best[o.From][o.To] = i + 1
		}
	}
	b := &board{n: n, offers: offers}
	for i, o := range offers {
		if best[o.From][o.To] == i+1 {
			b.add(i)
		}
	}
	return b
}

// grown goes through what the trails become by some more offers: in lexicographic order, if the trails are given in it.
func (b *board) grown(trails []trail, more int) iter.Seq[trail] {
	if more == 0 {
		return slices.Values(trails)
	}
	return func(yield func(trail) bool) {
		for t := range b.grown(trails, more-1) {
			for _, i := range b.from[t.end] {
				if next, ok := t.with(i, b.offers[i]); ok && !yield(next) {
					return
				}
			}
		}
	}
}

// shortest goes through what the trails become: first by no more offers, then by one, and so on.
func (b *board) shortest(trails []trail) iter.Seq[trail] {
	return func(yield func(trail) bool) {
		for more := range b.n {
			for t := range b.grown(trails, more) {
				if !yield(t) {
					return
				}
			}
		}
	}
}

// trails goes through the trails that begin with a currency: by their sizes, and of one size in lexicographic order. Only rounds of all currencies are left out.
func (b *board) trails(currency int) iter.Seq[trail] {
	return b.shortest([]trail{begin(currency)})
}

// rounds goes through the rounds by their sizes, and of one size in lexicographic order: each only by the list that begins with its least index, since the others that go the same way round come later.
func (b *board) rounds() iter.Seq[trail] {
	var firsts []trail
	for _, i := range b.all {
		t, _ := begin(b.offers[i].From).with(i, b.offers[i])
		t.least = i
		firsts = append(firsts, t)
	}
	return func(yield func(trail) bool) {
		for t := range b.shortest(firsts) {
			if t.closed() && !yield(t) {
				return
			}
		}
	}
}

// gain returns the first round with a rate above 1, and whether there is one.
func (b *board) gain() (trail, bool) {
	for t := range b.rounds() {
		if t.gains() {
			return t, true
		}
	}
	return trail{}, false
}

func (b *board) hasGain() bool {
	_, ok := b.gain()
	return ok
}

// best returns the first trail with the greatest rate from one currency to another one, and whether there is one.
// If no round gains, no walk has a greater rate, since a walk that comes to a currency twice can leave out the round between.
func (b *board) best(from, to int) (trail, bool) {
	var most trail
	found := false
	for t := range b.trails(from) {
		if t.end == to && (!found || t.rate.above(most.rate)) {
			most, found = t, true
		}
	}
	return most, found
}
