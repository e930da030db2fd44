package inspect

import "cocket/api"

// ratio is num divided by den, which is above 0, in lowest terms.
func ratio(num, den int) api.Ratio {
	d := greatestDivisor(den, num)
	return api.Ratio{Num: num / d, Den: den / d}
}

// lowest is the same numbers in lowest terms.
func lowest(p api.Parts) api.Parts {
	d := commonDivisor(p)
	low := api.Parts{Num: make([]int, len(p.Num)), Den: p.Den / d}
	for i, num := range p.Num {
		low.Num[i] = num / d
	}
	return low
}

// commonDivisor is the greatest whole number that divides Den, which is above 0, and all of Num.
func commonDivisor(p api.Parts) int {
	d := p.Den
	for _, num := range p.Num {
		d = greatestDivisor(d, num)
	}
	return d
}

// greatestDivisor is the greatest whole number that divides a, which is above 0, and b.
func greatestDivisor(a, b int) int {
	for b != 0 {
		a, b = b, a%b
	}
	return max(a, -a)
}

// isValue reports whether this can be the value of a saddle.
func isValue(v api.Ratio) bool {
	return isWithin(v.Den, 1, api.MaxDen) && isWithin(v.Num, -api.MaxDen, api.MaxDen) && greatestDivisor(v.Den, v.Num) == 1
}

// isMixture reports whether this is a mixture of so many moves, with a Den of at most most.
func isMixture(p api.Parts, moves, most int) bool {
	if len(p.Num) != moves || !isWithin(p.Den, 1, most) || !areWithin(p.Num, 0, p.Den) {
		return false
	}
	sum := 0
	for _, num := range p.Num {
		sum += num
	}
	return sum == p.Den && commonDivisor(p) == 1
}

// compare tells by its sign how num divided by den, which is above 0, compares with v.
func compare(num, den int, v api.Ratio) int {
	// What is multiplied across needs more than 64 bits.
	return numberOf(num).times(numberOf(v.Den)).compare(numberOf(v.Num).times(numberOf(den)))
}
