package origin

import "math/bits"

// wide is a whole number from 0 to 2^128 - 1.
type wide struct{ high, low uint64 }

func (a wide) plus(b wide) wide {
	low, carry := bits.Add64(a.low, b.low, 0)
	high, _ := bits.Add64(a.high, b.high, carry)
	return wide{high, low}
}

func (a wide) times(n uint64) wide {
	high, low := bits.Mul64(a.low, n)
	return wide{high + a.high*n, low}
}

// over returns the number divided by n, which is not 0, rounded down, and the rest.
func (a wide) over(n uint64) (wide, uint64) {
	low, rest := bits.Div64(a.high%n, a.low, n)
	return wide{a.high / n, low}, rest
}
