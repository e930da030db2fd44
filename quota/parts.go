package quota

import "cocket/api"

func total(numbers []int) int {
	sum := 0
	for _, number := range numbers {
		sum += number
	}
	return sum
}

// lowest is the same numbers in lowest terms.
func lowest(p api.Parts) api.Parts {
	d := commonDivisor(p)
	low := api.Parts{Num: make([]int, len(p.Num)), Den: p.Den / d}
	for i, num := range p.Num {
		low.Num[i] = num / d
	}
	return low
}

// commonDivisor is the greatest whole number that divides Den, which is above 0, and all of Num.
func commonDivisor(p api.Parts) int {
	d := p.Den
	for _, num := range p.Num {
		for num != 0 {
			d, num = num, d%num
		}
	}
	return d
}
