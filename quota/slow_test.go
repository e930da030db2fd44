package quota_test

import (
	"math/big"
	"slices"

	"cocket/api"
)

// Slow answers, in numbers of any size, by the words of the chapter.

func whole(n int) *big.Rat {
	return big.NewRat(int64(n), 1)
}

func wholes(numbers []int) []*big.Rat {
	list := make([]*big.Rat, len(numbers))
	for i, number := range numbers {
		list[i] = whole(number)
	}
	return list
}

func plus(a, b *big.Rat) *big.Rat {
	return new(big.Rat).Add(a, b)
}

func minus(a, b *big.Rat) *big.Rat {
	return new(big.Rat).Sub(a, b)
}

func over(a *big.Rat, n int) *big.Rat {
	return new(big.Rat).Quo(a, whole(n))
}

func halves(list []*big.Rat) []*big.Rat {
	half := make([]*big.Rat, len(list))
	for i, r := range list {
		half[i] = over(r, 2)
	}
	return half
}

func lesser(a, b *big.Rat) *big.Rat {
	if a.Cmp(b) < 0 {
		return a
	}
	return b
}

func ratSum(list []*big.Rat) *big.Rat {
	all := whole(0)
	for _, r := range list {
		all = plus(all, r)
	}
	return all
}

// rats is the numbers that parts are.
func rats(p api.Parts) []*big.Rat {
	list := make([]*big.Rat, len(p.Num))
	for i, num := range p.Num {
		list[i] = big.NewRat(int64(num), int64(p.Den))
	}
	return list
}

// commonDivisor is the greatest whole number that divides Den and all of Num.
func commonDivisor(p api.Parts) int {
	d := big.NewInt(int64(p.Den))
	for _, num := range p.Num {
		d.GCD(nil, nil, d, new(big.Int).Abs(big.NewInt(int64(num))))
	}
	return int(d.Int64())
}

func isLowest(p api.Parts) bool {
	return commonDivisor(p) == 1
}

// lowest is the same numbers in lowest terms.
func lowest(p api.Parts) api.Parts {
	d := commonDivisor(p)
	low := parts(p.Den / d)
	for _, num := range p.Num {
		low.Num = append(low.Num, num/d)
	}
	return low
}

// isExactly tells whether parts are these numbers, in lowest terms.
func isExactly(p api.Parts, want []*big.Rat) bool {
	return p.Den >= 1 && isLowest(p) && slices.EqualFunc(rats(p), want, func(a, b *big.Rat) bool { return a.Cmp(b) == 0 })
}

// rise gives all the same, bit by bit, until they have enough, or nothing is left.
func rise(estate *big.Rat, enough []*big.Rat) []*big.Rat {
	got := wholes(make([]int, len(enough)))
	left := estate
	for left.Sign() > 0 {
		var open []int
		step := left
		for i := range got {
			if lack := minus(enough[i], got[i]); lack.Sign() > 0 {
				open = append(open, i)
				step = lesser(step, lack)
			}
		}
		step = lesser(step, over(left, len(open)))
		for _, i := range open {
			got[i] = plus(got[i], step)
			left = minus(left, step)
		}
	}
	return got
}

// lose takes the same from all, bit by bit, until they have nothing, or no more than the estate is left.
func lose(estate *big.Rat, claims []*big.Rat) []*big.Rat {
	got := slices.Clone(claims)
	for {
		beyond := minus(ratSum(got), estate)
		if beyond.Sign() == 0 {
			return got
		}
		var open []int
		step := beyond
		for i := range got {
			if got[i].Sign() > 0 {
				open = append(open, i)
				step = lesser(step, got[i])
			}
		}
		step = lesser(step, over(beyond, len(open)))
		for _, i := range open {
			got[i] = minus(got[i], step)
		}
	}
}

func lessOf(claims, losses []*big.Rat) []*big.Rat {
	list := make([]*big.Rat, len(claims))
	for i := range list {
		list[i] = minus(claims[i], losses[i])
	}
	return list
}

// eachOrder calls test with every order of so many claimants.
func eachOrder(n int, test func(order []int)) {
	order := make([]int, n)
	for i := range order {
		order[i] = i
	}
	for {
		test(order)
		at := n - 2
		for at >= 0 && order[at] > order[at+1] {
			at--
		}
		if at < 0 {
			return
		}
		next := n - 1
		for order[next] < order[at] {
			next--
		}
		order[at], order[next] = order[next], order[at]
		slices.Reverse(order[at+1:])
	}
}

// meanOfOrders is the mean, over all orders, of what each one gets in it.
func meanOfOrders(n int, gets func(order []int) []int) []*big.Rat {
	sums, orders := make([]int, n), 0
	eachOrder(n, func(order []int) {
		for i, get := range gets(order) {
			sums[i] += get
		}
		orders++
	})
	means := wholes(sums)
	for i := range means {
		means[i] = over(means[i], orders)
	}
	return means
}

func slowShare(rule int, p problem) []*big.Rat {
	estate, claims := whole(p.estate), wholes(p.claims)
	all := ratSum(claims)
	switch rule {
	case api.RuleEqual:
		return rise(estate, claims)
	case api.RuleLoss:
		return lose(estate, claims)
	case api.RulePart:
		for i := range claims {
			if all.Sign() > 0 {
				claims[i] = new(big.Rat).Mul(claims[i], new(big.Rat).Quo(estate, all))
			}
		}
		return claims
	case api.RuleTalmud:
		if estate.Cmp(over(all, 2)) <= 0 {
			return rise(estate, halves(claims))
		}
		return lessOf(claims, rise(minus(all, estate), halves(claims)))
	}
	return meanOfOrders(len(claims), func(order []int) []int {
		left, taken := p.estate, make([]int, len(order))
		for _, i := range order {
			taken[i] = min(left, p.claims[i])
			left -= taken[i]
		}
		return taken
	})
}

// slowIs tells whether parts are shares of a problem.
func slowIs(p problem, x api.Parts) bool {
	if x.Den < 1 || x.Den > api.MaxShare || len(x.Num) != len(p.claims) || !isLowest(x) {
		return false
	}
	for i, share := range rats(x) {
		if share.Sign() < 0 || share.Cmp(whole(p.claims[i])) > 0 {
			return false
		}
	}
	return ratSum(rats(x)).Cmp(whole(p.estate)) == 0
}

// slowValue is v of a set.
func slowValue(p problem, set int) int {
	left := p.estate
	for i, claim := range p.claims {
		if set>>i&1 == 0 {
			left -= claim
		}
	}
	return max(0, left)
}

// slowExcess is the excess of a set, times Den.
func slowExcess(p problem, x api.Parts, set int) int {
	return slowValue(p, set)*x.Den - sumOf(set, x.Num)
}

func slowExcesses(p problem, x api.Parts) []int {
	var list []int
	for set := 1; set < 1<<len(p.claims)-1; set++ {
		list = append(list, slowExcess(p, x, set))
	}
	slices.Sort(list)
	slices.Reverse(list)
	return list
}

// slowContest is what the two get.
func slowContest(estate, a, b *big.Rat) []*big.Rat {
	toB, toA := whole(0), whole(0)
	if a.Cmp(estate) < 0 {
		toB = minus(estate, a)
	}
	if b.Cmp(estate) < 0 {
		toA = minus(estate, b)
	}
	half := over(minus(minus(estate, toA), toB), 2)
	return []*big.Rat{plus(toA, half), plus(toB, half)}
}

func slowFair(p problem, x api.Parts) []int {
	shares, claims := rats(x), wholes(p.claims)
	for i := range shares {
		for j := i + 1; j < len(shares); j++ {
			two := slowContest(plus(shares[i], shares[j]), claims[i], claims[j])
			if two[0].Cmp(shares[i]) != 0 || two[1].Cmp(shares[j]) != 0 {
				return []int{i, j}
			}
		}
	}
	return nil
}

// areWeights tells whether these are positive weights, in lowest terms, with which the sets are balanced.
func areWeights(n int, sets []int, w api.Parts) bool {
	if w.Den < 1 || len(w.Num) != len(sets) || !isLowest(w) {
		return false
	}
	totals := wholes(make([]int, n))
	for k, weight := range rats(w) {
		if weight.Sign() <= 0 {
			return false
		}
		for i := range totals {
			if sets[k]>>i&1 == 1 {
				totals[i] = plus(totals[i], weight)
			}
		}
	}
	return !slices.ContainsFunc(totals, func(r *big.Rat) bool { return r.Cmp(whole(1)) != 0 })
}

// widest is how great the numbers of taxes for so many claimants need to be: the greatest determinant of 0 and 1 with a side of one less.
var widest = []int{1, 1, 1, 1, 2, 3}

// slowBalanced tells whether sets of at most five claimants are balanced: either they are, or there are taxes (some less than 0) that in sum give nothing or cost something, of which no set pays less than 0, and not all of this is 0 (Stiemke). Of such taxes some are solutions of equations, so that small numbers suffice.
func slowBalanced(n int, sets []int) bool {
	if len(sets) == 0 {
		return false
	}
	most := widest[n]
	taxes := slices.Repeat([]int{-most}, n)
	for {
		if refutes(n, sets, taxes) {
			return false
		}
		i := 0
		for i < n && taxes[i] == most {
			taxes[i] = -most
			i++
		}
		if i == n {
			return true
		}
		taxes[i]++
	}
}

// refutes tells whether these taxes show that the sets are not balanced.
func refutes(n int, sets, taxes []int) bool {
	all := sumOf(1<<n-1, taxes)
	if all > 0 {
		return false
	}
	strict := all < 0
	for _, set := range sets {
		pays := sumOf(set, taxes)
		if pays < 0 {
			return false
		}
		strict = strict || pays > 0
	}
	return strict
}

// slowNucleolus is the answer of Nucleolus for shares of at most five.
func slowNucleolus(p problem, x api.Parts) bool {
	n := len(p.claims)
	for _, least := range slowExcesses(p, x) {
		var sets []int
		for set := 1; set < 1<<n-1; set++ {
			if slowExcess(p, x, set) >= least {
				sets = append(sets, set)
			}
		}
		if !slowBalanced(n, sets) {
			return false
		}
	}
	return true
}

// onlyWeights solves the equations of as many sets as claimants; nil if they do not have one solution.
func onlyWeights(n int, sets []int) []*big.Rat {
	rows := make([][]*big.Rat, n)
	for i := range rows {
		for _, set := range sets {
			rows[i] = append(rows[i], whole(set>>i&1))
		}
		rows[i] = append(rows[i], whole(1))
	}
	for at := range n {
		pivot := slices.IndexFunc(rows[at:], func(row []*big.Rat) bool { return row[at].Sign() != 0 })
		if pivot < 0 {
			return nil
		}
		rows[at], rows[at+pivot] = rows[at+pivot], rows[at]
		for i, row := range rows {
			if i == at {
				continue
			}
			times := new(big.Rat).Quo(row[at], rows[at][at])
			for k := range row {
				row[k] = minus(row[k], new(big.Rat).Mul(times, rows[at][k]))
			}
		}
	}
	list := make([]*big.Rat, n)
	for i, row := range rows {
		list[i] = new(big.Rat).Quo(row[n], row[i])
	}
	return list
}
