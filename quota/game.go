package quota

import (
	"cmp"
	"slices"

	"cocket/api"
)

// A set of claimants is told as the sum of 2^index.

func has(set, claimant int) bool {
	return set&only(claimant) != 0
}

func only(claimant int) int {
	return 1 << claimant
}

func everybody(n int) int {
	return 1<<n - 1
}

// sumOf is the sum of the numbers of these claimants.
func sumOf(set int, numbers []int) int {
	sum := 0
	for i, number := range numbers {
		if has(set, i) {
			sum += number
		}
	}
	return sum
}

func game(estate int, claims []int) []int {
	all := everybody(len(claims))
	values := make([]int, all+1)
	for set := range values {
		values[set] = max(0, estate-sumOf(all&^set, claims))
	}
	return values
}

// wish is what a set of claimants would have more if it took what the others leave, times the divisor of the shares.
type wish struct{ set, excess int }

// wishes lists those of all sets but the empty one and that of all, the greatest excess first.
func wishes(estate int, claims []int, x api.Parts) []wish {
	values := game(estate, claims)
	var list []wish
	for set := 1; set < everybody(len(claims)); set++ {
		list = append(list, wish{set, values[set]*x.Den - sumOf(set, x.Num)})
	}
	slices.SortFunc(list, func(a, b wish) int {
		return cmp.Or(cmp.Compare(b.excess, a.excess), cmp.Compare(a.set, b.set))
	})
	return list
}

// twiceContested is twice what the first of two gets of a garment, which is at most the sum of their claims.
func twiceContested(estate, a, b int) int {
	conceded, given := max(0, estate-b), max(0, estate-a)
	return 2*conceded + (estate - conceded - given)
}
