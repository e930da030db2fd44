package inspect

import (
	"cmp"
	"slices"

	"cocket/api"
)

// boxes returns the saddle of the game of boxes.
//
// The smuggler uses so many boxes that are worth most, as many as gain the most, each the less the more it is worth, so that all of these let the same through. The inspector opens each box so far that it gains no more than that. All numbers are whole, and at most 64 times the product of all worths, so that nothing overflows.
func boxes(worth []int, looks int) api.Saddle {
	all := 1
	for _, w := range worth {
		all *= w
	}
	used, sum := bestUse(worth, looks, all)
	passed := len(used) - looks
	rows := api.Parts{Num: make([]int, len(worth)), Den: sum}
	for _, i := range used {
		rows.Num[i] = all / worth[i]
	}
	columns := api.Parts{Num: make([]int, len(worth)), Den: sum}
	for i, w := range worth {
		columns.Num[i] = max(0, sum-passed*(all/w))
	}
	return api.Saddle{Value: ratio(passed*all, sum), Rows: lowest(rows), Columns: lowest(columns)}
}

// bestUse returns the boxes, of those that are worth most, with which the smuggler gains the most, and the sum of all divided by their worths. Of several it takes the fewest.
func bestUse(worth []int, looks, all int) ([]int, int) {
	order := firstNumbers(len(worth))
	slices.SortStableFunc(order, func(i, j int) int { return cmp.Compare(worth[j], worth[i]) })
	best, bestSum, sum := 0, 0, 0
	for i, box := range order {
		sum += all / worth[box]
		count := i + 1
		if count < looks {
			continue
		}
		if best == 0 || (count-looks)*bestSum > (best-looks)*sum {
			best, bestSum = count, sum
		}
	}
	return order[:best], bestSum
}
