package quota

import (
	"slices"

	"cocket/api"
)

// divided returns the shares by a rule, not yet in lowest terms; false if there is no such rule.
func divided(rule, estate int, claims []int) (api.Parts, bool) {
	missing := total(claims) - estate
	switch rule {
	case api.RuleEqual:
		return equal(estate, claims), true
	case api.RuleLoss:
		return less(claims, equal(missing, claims)), true
	case api.RulePart:
		return proportional(estate, claims), true
	case api.RuleTalmud:
		if estate <= missing {
			return equalOfHalves(estate, claims), true
		}
		return less(claims, equalOfHalves(missing, claims)), true
	case api.RuleRun:
		return run(estate, claims), true
	}
	return api.Parts{}, false
}

// equal is RuleEqual, of any estate that is at most the sum of the claims.
func equal(estate int, claims []int) api.Parts {
	ascending := slices.Clone(claims)
	slices.Sort(ascending)
	left, sharers := estate, len(claims)
	for _, claim := range ascending {
		// What is left is never more than what is still claimed: this ends the loop at the greatest claim at the latest, and one sharer remains.
		if claim*sharers >= left {
			break
		}
		left -= claim
		sharers--
	}
	shares := api.Parts{Num: make([]int, len(claims)), Den: sharers}
	for i, claim := range claims {
		shares.Num[i] = min(claim*sharers, left)
	}
	return shares
}

// equalOfHalves is RuleEqual with the halves of the claims.
func equalOfHalves(estate int, claims []int) api.Parts {
	// A half of what twice the estate gives by the whole claims, so that all numbers are whole.
	shares := equal(2*estate, claims)
	shares.Den *= 2
	return shares
}

// less is the claims less these losses.
func less(claims []int, losses api.Parts) api.Parts {
	shares := api.Parts{Num: make([]int, len(claims)), Den: losses.Den}
	for i, claim := range claims {
		shares.Num[i] = claim*losses.Den - losses.Num[i]
	}
	return shares
}

// proportional is RulePart.
func proportional(estate int, claims []int) api.Parts {
	// Where all claims are 0, so is the estate: any divisor does.
	shares := api.Parts{Num: make([]int, len(claims)), Den: max(1, total(claims))}
	for i, claim := range claims {
		shares.Num[i] = estate * claim
	}
	return shares
}

// run is RuleRun.
func run(estate int, claims []int) api.Parts {
	shares := api.Parts{Num: make([]int, len(claims))}
	taken := make([]int, len(claims))
	var come func(came, left int)
	come = func(came, left int) {
		if came == everybody(len(claims)) {
			for i, take := range taken {
				shares.Num[i] += take
			}
			shares.Den++ // counts the orders
			return
		}
		for i, claim := range claims {
			if !has(came, i) {
				take := min(claim, left)
				taken[i] = take
				come(came|only(i), left-take)
			}
		}
	}
	come(0, estate)
	return shares
}
