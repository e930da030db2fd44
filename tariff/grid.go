package tariff

import (
	"math/bits"
	"slices"

	"cocket/api"
)

// set is a set of rules: its bit i, from the lowest one on, tells whether the rule i is in it.
type set uint64

func (s set) isEmpty() bool {
	return s == 0
}

// first returns the rule in the set that comes first.
func (s set) first() int {
	return bits.TrailingZeros64(uint64(s))
}

func only(i int) set {
	return 1 << i
}

// band is numbers of a mark, from lo to hi less 1, that the same rules fit.
type band struct {
	lo, hi int
	fit    set
}

// key is a mark, and a set of rules that fit what came before it.
type key [2]uint64

func keyOf(mark int, fit set) key {
	return key{uint64(mark), uint64(fit)}
}

// grid is one or two tariffs, whose rules are numbered from those of the first one on, and the bands into which their rules cut each mark.
// What a thing's code is depends on its marks' bands only; and after some of its marks, on the set of rules that fit these, which is the same for most choices of bands.
type grid struct {
	k      int
	rules  []api.Rule
	bands  [api.MaxMarks][]band
	covers [api.MaxMarks + 1][]set // for each mark and rule: the later rules of its tariff that fit nothing which it does not, from this mark on
}

func newGrid(k int, tariffs ...[]api.Rule) *grid {
	g := &grid{k: k}
	for _, t := range tariffs {
		for mark := range k + 1 {
			for i := range t {
				g.covers[mark] = append(g.covers[mark], covered(t, i, mark)<<len(g.rules))
			}
		}
		g.rules = append(g.rules, t...)
	}
	for mark := range k {
		g.bands[mark] = bandsOf(g.rules, mark)
	}
	return g
}

// covered is the rules after the rule i whose bands, from a mark on, lie within its own.
func covered(t []api.Rule, i, mark int) set {
	var s set
	for j := i + 1; j < len(t); j++ {
		if liesWithin(t[j].Bands[mark:], t[i].Bands[mark:]) {
			s |= only(j)
		}
	}
	return s
}

func liesWithin(inner, outer []api.Band) bool {
	for i, b := range inner {
		if b.Lo < outer[i].Lo || b.Hi > outer[i].Hi {
			return false
		}
	}
	return true
}

func bandsOf(rules []api.Rule, mark int) []band {
	ends := []int{0, api.MaxMark + 1}
	for _, r := range rules {
		ends = append(ends, r.Bands[mark].Lo, r.Bands[mark].Hi)
	}
	slices.Sort(ends)
	ends = slices.Compact(ends)
	var list []band
	for i, hi := range ends[1:] {
		b := band{lo: ends[i], hi: hi}
		for j, r := range rules {
			if r.Bands[mark].Lo <= b.lo && b.hi <= r.Bands[mark].Hi {
				b.fit |= only(j)
			}
		}
		list = append(list, b)
	}
	return list
}

// all is the set of rules that may still decide before any mark is known.
func (g *grid) all() set {
	return g.settle(0, only(len(g.rules))-1)
}

// next is the set of rules that may still decide after a mark in this band.
func (g *grid) next(mark int, fit set, b band) set {
	return g.settle(mark+1, fit&b.fit)
}

// settle leaves out the rules that decide nothing whatever the marks from this one on are, so that fewer sets are to be told apart.
// After the last mark only one rule of each tariff is left: the one that decides.
func (g *grid) settle(mark int, fit set) set {
	for rest := fit; rest != 0; {
		i := rest.first()
		fit &^= g.covers[mark][i]
		rest &= fit &^ only(i)
	}
	return fit
}

// least returns the lexicographically least thing for which the rules that decide are as wanted: ErrPlan if there is none.
func (g *grid) least(wanted func(decide set) bool) ([]int, api.Errno) {
	thing := make([]int, g.k)
	failed := map[key]bool{}
	var find func(mark int, fit set) bool
	find = func(mark int, fit set) bool {
		if mark == g.k {
			return wanted(fit)
		}
		if failed[keyOf(mark, fit)] {
			return false
		}
		for _, b := range g.bands[mark] {
			thing[mark] = b.lo
			if find(mark+1, g.next(mark, fit, b)) {
				return true
			}
		}
		failed[keyOf(mark, fit)] = true
		return false
	}
	if !find(0, g.all()) {
		return nil, api.ErrPlan
	}
	return thing, api.OK
}

// counts returns how many things each rule of a single tariff decides, and how many have no code.
func (g *grid) counts() ([]int, int) {
	things := map[set]int{g.all(): 1}
	for mark := range g.k {
		further := map[set]int{}
		for fit, n := range things {
			for _, b := range g.bands[mark] {
				further[g.next(mark, fit, b)] += n * (b.hi - b.lo)
			}
		}
		things = further
	}
	counts := make([]int, len(g.rules))
	for i := range counts {
		counts[i] = things[only(i)]
	}
	return counts, things[0]
}

// difference returns the lexicographically least thing of which the two tariffs do not say the same: ErrPlan if there is none.
func difference(k int, s, t []api.Rule) ([]int, api.Errno) {
	g := newGrid(k, s, t)
	ofS := only(len(s)) - 1
	return g.least(func(decide set) bool {
		return g.answer(decide&ofS) != g.answer(decide&^ofS)
	})
}

// answer is how a diagram writes what the first rule of a set says.
func (g *grid) answer(s set) int {
	if s.isEmpty() {
		return noCode
	}
	return atCode(g.rules[s.first()].Code)
}
