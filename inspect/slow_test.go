package inspect_test

import (
	"math/big"
	"math/bits"
	"slices"

	"cocket/api"
)

// Slow answers, in numbers of any size, by the words of the chapter.

func whole(n int) *big.Rat {
	return big.NewRat(int64(n), 1)
}

func plus(a, b *big.Rat) *big.Rat {
	return new(big.Rat).Add(a, b)
}

func minus(a, b *big.Rat) *big.Rat {
	return new(big.Rat).Sub(a, b)
}

func times(a, b *big.Rat) *big.Rat {
	return new(big.Rat).Mul(a, b)
}

func over(a, b *big.Rat) *big.Rat {
	return new(big.Rat).Quo(a, b)
}

func rat(r api.Ratio) *big.Rat {
	return big.NewRat(int64(r.Num), int64(r.Den))
}

// rats is the numbers that parts are.
func rats(p api.Parts) []*big.Rat {
	list := make([]*big.Rat, len(p.Num))
	for i, num := range p.Num {
		list[i] = big.NewRat(int64(num), int64(p.Den))
	}
	return list
}

func isSame(a, b *big.Rat) bool {
	return a.Cmp(b) == 0
}

// isExactly reports whether r is this number, in lowest terms.
func isExactly(r api.Ratio, want *big.Rat) bool {
	return r.Den > 0 && want.Num().IsInt64() && want.Denom().IsInt64() &&
		int64(r.Num) == want.Num().Int64() && int64(r.Den) == want.Denom().Int64()
}

// isLowest reports whether Den is above 0, and no whole number above 1 divides it and all of Num.
func isLowest(p api.Parts) bool {
	if p.Den < 1 {
		return false
	}
	d := big.NewInt(int64(p.Den))
	for _, num := range p.Num {
		d.GCD(nil, nil, d, new(big.Int).Abs(big.NewInt(int64(num))))
	}
	return d.Cmp(big.NewInt(1)) == 0
}

// slowMixture reports whether p is a mixture of so many moves with a Den of at most most.
func slowMixture(p api.Parts, moves, most int) bool {
	if len(p.Num) != moves || p.Den < 1 || p.Den > most || !isLowest(p) {
		return false
	}
	all := new(big.Int)
	for _, num := range p.Num {
		if num < 0 {
			return false
		}
		all.Add(all, big.NewInt(int64(num)))
	}
	return all.Cmp(big.NewInt(int64(p.Den))) == 0
}

// slowPay is the pay of two mixtures.
func slowPay(game [][]int, rows, columns api.Parts) *big.Rat {
	all := whole(0)
	for i, x := range rats(rows) {
		for j, y := range rats(columns) {
			all = plus(all, times(whole(game[i][j]), times(x, y)))
		}
	}
	return all
}

// slowIs reports whether s is a saddle of the game.
func slowIs(game [][]int, s api.Saddle) bool {
	if !slowMixture(s.Rows, len(game), api.MaxDen) || !slowMixture(s.Columns, len(game[0]), api.MaxDen) {
		return false
	}
	if s.Value.Den < 1 || s.Value.Den > api.MaxDen || s.Value.Num > api.MaxDen || s.Value.Num < -api.MaxDen || !isExactly(s.Value, rat(s.Value)) {
		return false
	}
	for j := range game[0] {
		if slowPay(game, s.Rows, pure(len(game[0]), j)).Cmp(rat(s.Value)) < 0 {
			return false
		}
	}
	for i := range game {
		if slowPay(game, pure(len(game), i), s.Columns).Cmp(rat(s.Value)) > 0 {
			return false
		}
	}
	return true
}

// slowAnswer returns the first column that pays the least, and what it pays.
func slowAnswer(game [][]int, rows api.Parts) (int, *big.Rat) {
	column, least := 0, slowPay(game, rows, pure(len(game[0]), 0))
	for j := range game[0] {
		if pay := slowPay(game, rows, pure(len(game[0]), j)); pay.Cmp(least) < 0 {
			column, least = j, pay
		}
	}
	return column, least
}

// slowWorse returns the first row of a game that is worse than another one, or -1.
func slowWorse(game [][]int) int {
	for i, row := range game {
		for _, other := range game {
			worse := !slices.Equal(row, other)
			for j := range row {
				worse = worse && row[j] <= other[j]
			}
			if worse {
				return i
			}
		}
	}
	return -1
}

// slowLean leaves out one row or column, and then goes on with what is left.
func slowLean(game [][]int, rows, columns []int) ([]int, []int) {
	left := part(game, rows, columns)
	if i := slowWorse(left); i >= 0 {
		return slowLean(game, without(rows, i), columns)
	}
	if j := slowWorse(turned(left)); j >= 0 {
		return slowLean(game, rows, without(columns, j))
	}
	return rows, columns
}

// numbersTo is 0, 1 and so on, n numbers.
func numbersTo(n int) []int {
	list := make([]int, n)
	for i := range list {
		list[i] = i
	}
	return list
}

// slowDay is the gain of the first of some days, and the parts with which the inspector looks and the smuggler goes.
type slowDay struct{ gain, look, going *big.Rat }

// slowDays are all days by days and looks, from few days to many.
func slowDays() [][]slowDay {
	never, always := whole(0), whole(1)
	var all [][]slowDay
	for days := range api.MaxDays + 1 {
		var list []slowDay
		for looks := range api.MaxDays + 1 {
			switch {
			case looks >= days:
				list = append(list, slowDay{never, always, never})
			case looks == 0:
				list = append(list, slowDay{always, never, always})
			default:
				list = append(list, slowToday(all[days-1][looks-1].gain, all[days-1][looks].gain))
			}
		}
		all = append(all, list)
	}
	return all
}

// slowToday looks with the part that makes going and staying gain the same, and goes with the part that makes looking and not looking lose the same.
func slowToday(g, h *big.Rat) slowDay {
	both := plus(whole(2), minus(g, h))
	look := over(minus(whole(1), h), both)
	going := over(minus(g, h), both)
	gain := minus(whole(1), times(whole(2), look)) // of going
	return slowDay{gain, look, going}
}

// choose is the number of ways to choose k of n.
func choose(n, k int) int {
	return int(new(big.Int).Binomial(int64(n), int64(k)).Int64())
}

// slowBoxes reports whether s is a saddle of the game of boxes.
func slowBoxes(worth []int, looks int, s api.Saddle) bool {
	if len(s.Columns.Num) != len(worth) || !slowMixture(s.Rows, len(worth), api.MaxDen) || !isLowest(s.Columns) || s.Columns.Den > api.MaxDen || !isExactly(s.Value, rat(s.Value)) {
		return false
	}
	for _, num := range s.Columns.Num {
		if num < 0 || num > s.Columns.Den {
			return false
		}
	}
	if sum(s.Columns.Num) > looks*s.Columns.Den {
		return false
	}
	for i, opened := range rats(s.Columns) {
		if times(whole(worth[i]), minus(whole(1), opened)).Cmp(rat(s.Value)) > 0 {
			return false
		}
	}
	used := rats(s.Rows)
	for set := range 1 << len(worth) {
		if bits.OnesCount(uint(set)) != looks {
			continue
		}
		passed := whole(0)
		for i, w := range worth {
			if set>>i&1 == 0 {
				passed = plus(passed, times(whole(w), used[i]))
			}
		}
		if passed.Cmp(rat(s.Value)) < 0 {
			return false
		}
	}
	return true
}

// valueOfBoxes is the greatest of what a smuggler gains with the boxes that are worth most.
func valueOfBoxes(worth []int, looks int) *big.Rat {
	descending := slices.Clone(worth)
	slices.Sort(descending)
	slices.Reverse(descending)
	most := whole(0)
	for k := max(1, looks); k <= len(worth); k++ {
		all := whole(0)
		for _, w := range descending[:k] {
			all = plus(all, big.NewRat(1, int64(w)))
		}
		if gain := over(whole(k-looks), all); gain.Cmp(most) > 0 {
			most = gain
		}
	}
	return most
}
