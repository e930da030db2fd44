package origin

import "cocket/api"

// fullTrust is the greatest value of RingTrust and RingDoubt.
const fullTrust = 100

// beyond stands for all numbers above MaxTimes. They need not be told apart: which one of them goes into a sum or product makes no difference to whether its value is within.
const beyond = api.MaxTimes + 1

func isBeyond(n int) bool {
	return n > api.MaxTimes
}

// ringOf returns the semiring of a kind. In RingWays and RingCost it goes on with beyond where a value is above MaxTimes.
func ringOf(kind int) semiring[int] {
	switch kind {
	case api.RingHave:
		return semiring[int]{nothing: 0, all: 1, sum: greater, product: lesser}
	case api.RingWays:
		return semiring[int]{nothing: 0, all: 1, sum: plus, product: times}
	case api.RingCost:
		return semiring[int]{nothing: api.Never, all: 0, sum: cheaper, product: costOfBoth}
	case api.RingTrust:
		return semiring[int]{nothing: 0, all: fullTrust, sum: greater, product: lesser}
	case api.RingDoubt:
		return semiring[int]{nothing: 0, all: fullTrust, sum: greater, product: doubt}
	}
	return semiring[int]{nothing: api.Never, all: 0, sum: common, product: either}
}

func greater(a, b int) int {
	return max(a, b)
}

func lesser(a, b int) int {
	return min(a, b)
}

func plus(a, b int) int {
	return min(a+b, beyond)
}

func times(a, b int) int {
	if a != 0 && b > api.MaxTimes/a {
		return beyond
	}
	return a * b
}

func cheaper(a, b int) int {
	if a == api.Never {
		return b
	}
	if b == api.Never {
		return a
	}
	return min(a, b)
}

func costOfBoth(a, b int) int {
	if a == api.Never || b == api.Never {
		return api.Never
	}
	return plus(a, b)
}

func doubt(a, b int) int {
	return max(a+b-fullTrust, 0)
}

// common needs no case for Never: all its bits are set, as those of a set that has everything.
func common(a, b int) int {
	return a & b
}

func either(a, b int) int {
	return a | b
}
