package origin_test

import (
	"math/big"
	"slices"

	"cocket/api"
)

// monomial is the power of each source.
type monomial [api.MaxSources]int

// sums is a polynomial with numbers of any size.
type sums map[monomial]*big.Int

// limit is api.MaxTimes.
var limit = big.NewInt(api.MaxTimes)

// comesFrom lists the things (not the sources) from which no comes, and no, if it is one.
func comesFrom(m int, things []api.Made, no int) []int {
	seen := map[int]bool{}
	var visit func(no int)
	visit = func(no int) {
		if no < m || seen[no] {
			return
		}
		seen[no] = true
		for _, parts := range things[no-m].Ways {
			for _, part := range parts {
				visit(part)
			}
		}
	}
	visit(no)
	var list []int
	for i := range things {
		if seen[m+i] {
			list = append(list, m+i)
		}
	}
	return list
}

// slowPolynomials is the polynomials of all sources and things, by the chapter's words; nil for those that are too large to be tried, and for those that come from them.
func slowPolynomials(m int, things []api.Made) []sums {
	var all []sums
	for i := range m {
		var of monomial
		of[i] = 1
		all = append(all, sums{of: big.NewInt(1)})
	}
	for _, thing := range things {
		all = append(all, slowSum(thing, all))
	}
	return all
}

func slowSum(thing api.Made, all []sums) sums {
	sum := sums{}
	for _, parts := range thing.Ways {
		product := sums{monomial{}: big.NewInt(1)}
		for _, part := range parts {
			if all[part] == nil || len(product)*len(all[part]) > 20000 {
				return nil
			}
			product = slowProduct(product, all[part])
		}
		for of, n := range product {
			addTo(sum, of, n)
		}
	}
	return sum
}

func slowProduct(p, q sums) sums {
	product := sums{}
	for a, n := range p {
		for b, k := range q {
			of := a
			for i := range of {
				of[i] += b[i]
			}
			addTo(product, of, new(big.Int).Mul(n, k))
		}
	}
	return product
}

func addTo(p sums, of monomial, n *big.Int) {
	if p[of] == nil {
		p[of] = new(big.Int)
	}
	p[of].Add(p[of], n)
}

// isFull reports whether a polynomial is larger than is allowed.
func isFull(p sums) bool {
	for of, n := range p {
		if n.Cmp(limit) > 0 || slices.Max(of[:]) > api.MaxPower {
			return true
		}
	}
	return len(p) > api.MaxTerms
}

// slowTerms is the answer of Polynomial; ok is false if that is too large to be tried.
func slowTerms(m int, things []api.Made, no int, all []sums) (terms []api.Term, e api.Errno, ok bool) {
	for _, number := range append(comesFrom(m, things, no), no) {
		if all[number] == nil {
			return nil, api.OK, false
		}
		if isFull(all[number]) {
			e = api.ErrFull
		}
	}
	if e != api.OK {
		return nil, e, true
	}
	for of, n := range all[no] {
		terms = append(terms, term(int(n.Int64()), slices.Clone(of[:m])...))
	}
	slices.SortFunc(terms, func(a, b api.Term) int { return -slices.Compare(a.Powers, b.Powers) })
	return terms, api.OK, true
}

// slowOf is the value of a polynomial in a ring, by a formula for each ring; it may be of any size, and is -1 for Never.
func slowOf(p sums, ring int, sources []int) *big.Int {
	value := big.NewInt(map[int]int64{api.RingCost: api.Never, api.RingParts: api.Never}[ring])
	for of, n := range p {
		x, never := slowTerm(of, ring, sources)
		switch ring {
		case api.RingWays:
			value.Add(value, x.Mul(x, n))
		case api.RingCost:
			if !never && (value.Sign() < 0 || x.Cmp(value) < 0) {
				value = x
			}
		case api.RingParts:
			if !never {
				value = big.NewInt(value.Int64() & x.Int64())
			}
		default:
			if x.Cmp(value) > 0 {
				value = x
			}
		}
	}
	return value
}

// slowTerm is the value of a product of sources, and whether it is Never.
func slowTerm(of monomial, ring int, sources []int) (*big.Int, bool) {
	product, sum, least, doubts, union := big.NewInt(1), big.NewInt(0), 100, 0, 0
	never := false
	for i, v := range sources {
		if of[i] == 0 {
			continue
		}
		times := big.NewInt(int64(of[i]))
		product.Mul(product, new(big.Int).Exp(big.NewInt(int64(v)), times, nil))
		sum.Add(sum, times.Mul(times, big.NewInt(int64(v))))
		least = min(least, v)
		doubts += of[i] * (100 - v)
		union |= v
		never = never || v == api.Never
	}
	switch ring {
	case api.RingTrust:
		return big.NewInt(int64(least)), false
	case api.RingDoubt:
		return big.NewInt(int64(max(0, 100-doubts))), false
	case api.RingCost:
		return sum, never
	case api.RingParts:
		return big.NewInt(int64(union)), never
	}
	return product, false // of RingHave, too
}

// slowValue is the answer of Value; ok is false if that is too large to be tried.
func slowValue(m int, things []api.Made, ring int, sources []int, no int, all []sums) (value int, e api.Errno, ok bool) {
	for _, number := range append(comesFrom(m, things, no), no) {
		if all[number] == nil {
			return 0, api.OK, false
		}
		if slowOf(all[number], ring, sources).Cmp(limit) > 0 {
			e = api.ErrRange
		}
	}
	if e != api.OK {
		return 0, e, true
	}
	return int(slowOf(all[no], ring, sources).Int64()), api.OK, true
}

// suffices reports whether a set of sources suffices to make a thing.
func suffices(m int, things []api.Made, set, no int) bool {
	can := make([]bool, m)
	for i := range m {
		can[i] = set>>i&1 == 1
	}
	for _, thing := range things {
		can = append(can, slices.ContainsFunc(thing.Ways, func(parts []int) bool {
			return !slices.ContainsFunc(parts, func(part int) bool { return !can[part] })
		}))
	}
	return can[no]
}

// slowWitnesses is the sets that suffice and do not contain another one that does.
func slowWitnesses(m int, things []api.Made, no int) []int {
	var enough, least []int
	for set := range 1 << m {
		if suffices(m, things, set, no) {
			enough = append(enough, set)
		}
	}
	for _, set := range enough {
		if !slices.ContainsFunc(enough, func(other int) bool { return other != set && other&set == other }) {
			least = append(least, set)
		}
	}
	return least
}

// slowCheapest is the answer of Cheapest for a polynomial with terms.
func slowCheapest(terms []api.Term, costs []int) []int {
	var best []int
	var least *big.Int
	for _, t := range terms {
		sum := new(big.Int)
		for i, power := range t.Powers {
			sum.Add(sum, new(big.Int).Mul(big.NewInt(int64(power)), big.NewInt(int64(costs[i]))))
		}
		if least == nil || sum.Cmp(least) < 0 || sum.Cmp(least) == 0 && slices.Compare(t.Powers, best) < 0 {
			best, least = t.Powers, sum
		}
	}
	return best
}

// slowShares is the shares of all sources and things, with numbers of any size.
func slowShares(m int, things []api.Made) [][]*big.Rat {
	var all [][]*big.Rat
	for i := range m {
		all = append(all, nothings(m))
		all[i][i].SetInt64(1)
	}
	for _, thing := range things {
		var ways [][]*big.Rat
		for _, parts := range thing.Ways {
			var list [][]*big.Rat
			for _, part := range parts {
				list = append(list, all[part])
			}
			ways = append(ways, mean(m, list))
		}
		all = append(all, mean(m, ways))
	}
	return all
}

func nothings(m int) []*big.Rat {
	list := make([]*big.Rat, m)
	for i := range list {
		list[i] = new(big.Rat)
	}
	return list
}

func mean(m int, lists [][]*big.Rat) []*big.Rat {
	sum := nothings(m)
	for _, list := range lists {
		for i := range sum {
			sum[i].Add(sum[i], new(big.Rat).Quo(list[i], big.NewRat(int64(len(lists)), 1)))
		}
	}
	return sum
}

// slowRatios is the answer of Shares, of what slowShares returned.
func slowRatios(m int, things []api.Made, no int, all [][]*big.Rat) ([]api.Ratio, api.Errno) {
	for _, number := range comesFrom(m, things, no) {
		for _, x := range all[number] {
			if x.Num().Cmp(limit) > 0 || x.Denom().Cmp(limit) > 0 {
				return nil, api.ErrRange
			}
		}
	}
	var list []api.Ratio
	for _, x := range all[no] {
		list = append(list, ratio(int(x.Num().Int64()), int(x.Denom().Int64())))
	}
	return list, api.OK
}
