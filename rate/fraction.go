package rate

import (
	"math/bits"

	"cocket/api"
)

// fraction is a positive rational number that, unlike an api.Ratio, need not be in lowest terms.
//
// Nothing overflows: the terms of a trail's rate are at most 50^6, those of two best rates' product at most 50^10, and those of a rate times a price at most 50 * 2^40.
type fraction struct{ Num, Den int }

var one = fraction{1, 1}

func rateOf(o api.Offer) fraction {
	return fraction{o.Num, o.Den}
}

func (a fraction) times(b fraction) fraction {
	return fraction{a.Num * b.Num, a.Den * b.Den}
}

// above reports whether a is greater than b.
func (a fraction) above(b fraction) bool {
	// Two prices multiplied across need more than 64 bits.
	leftHigh, leftLow := bits.Mul64(uint64(a.Num), uint64(b.Den))
	rightHigh, rightLow := bits.Mul64(uint64(b.Num), uint64(a.Den))
	if leftHigh != rightHigh {
		return leftHigh > rightHigh
	}
	return leftLow > rightLow
}

func (a fraction) lowest() api.Ratio {
	d := greatestDivisor(a.Num, a.Den)
	return api.Ratio{Num: a.Num / d, Den: a.Den / d}
}

func greatestDivisor(a, b int) int {
	for b != 0 {
		a, b = b, a%b
	}
	return a
}
