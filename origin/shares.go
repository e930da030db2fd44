package origin

import "cocket/api"

// factor is a prime, and the greatest power of it that is within MaxTimes.
type factor struct {
	prime uint64
	power int
}

// factors is all primes that come into a Den: it is a product of numbers of ways and of parts, which are at most 6.
var factors = [...]factor{{2, 40}, {3, 25}, {5, 17}}

// fineness is a number that all numbers of parts divide.
const fineness = 60

// portion is the shares of a thing: of each source so many grains. A grain is the whole divided by all factors in their powers, so that every Ratio within MaxTimes is whole grains.
// If a Ratio is not within, the portion is lost, and its grains are 0.
//
// Grains do not overflow: the whole is less than 2^119.1, and no number that portionOf makes is greater than fineness * MaxWays of it, which is less than 2^127.6.
type portion struct {
	grains [api.MaxSources]wide
	lost   bool
}

// whole is the grains of a thing that is all of one source.
func whole() wide {
	w := wide{low: 1}
	for _, f := range factors {
		for range f.power {
			w = w.times(f.prime)
		}
	}
	return w
}

func sourcePortions(m int) []portion {
	list := make([]portion, m)
	for source := range list {
		list[source].grains[source] = whole()
	}
	return list
}

// portionOf is the portion of a thing, by those of what has lesser numbers.
func portionOf(ways [][]int, before []portion) portion {
	var p portion
	if len(ways) == 0 {
		return p
	}
	for source := range p.grains {
		var sum wide
		for _, way := range ways {
			sum = sum.plus(shareOfWay(way, before, source))
		}
		grains, rest := sum.over(uint64(fineness * len(ways)))
		if _, ok := ratioOf(grains); rest > 0 || !ok {
			return portion{lost: true}
		}
		p.grains[source] = grains
	}
	return p
}

// shareOfWay is how many grains of a way are of a source, times fineness: this is a whole number.
func shareOfWay(way []int, before []portion, source int) wide {
	var sum wide
	for _, part := range way {
		sum = sum.plus(before[part].grains[source])
	}
	if len(way) == 0 {
		return sum
	}
	return sum.times(uint64(fineness / len(way)))
}

// ratioOf is the ratio of the grains, which are at most the whole, to the whole, and whether it is within MaxTimes. (Num is at most Den.)
func ratioOf(grains wide) (api.Ratio, bool) {
	den := 1
	for _, f := range factors {
		for range f.power {
			if less, rest := grains.over(f.prime); rest == 0 {
				grains = less
				continue
			}
			den *= int(f.prime)
			if isBeyond(den) {
				return api.Ratio{}, false
			}
		}
	}
	return api.Ratio{Num: int(grains.low), Den: den}, true
}
