package inspect

import "cocket/api"

// day is how the first of some days is played when both play their best: the smuggler's gain, and the parts with which the inspector looks and the smuggler goes.
type day struct{ gain, look, going api.Ratio }

// firstOf returns the first of so many days with so many looks. (Without days, the gain alone has a meaning.)
func firstOf(days, looks int) day {
	never, always := ratio(0, 1), ratio(1, 1)
	if looks >= days {
		return day{gain: never, look: always, going: never}
	}
	if looks == 0 {
		return day{gain: always, look: never, going: always}
	}
	return mixed(firstOf(days-1, looks-1).gain, firstOf(days-1, looks).gain)
}

// mixed is a day on which the smuggler, staying, gets g after a look and h after none.
//
// g is greater than h, since it is with a look less, so that neither side has a single best move: each makes the other one's two moves worth the same. The divisors are those of Dresher, at most 2^MaxDays, so that nothing overflows.
func mixed(g, h api.Ratio) day {
	den := g.Den * h.Den
	first, second := g.Num*h.Den, h.Num*g.Den
	all := 2*den + first - second
	return day{gain: ratio(first+second, all), look: ratio(den-second, all), going: ratio(first-second, all)}
}

// plan returns with which part the smuggler goes on each of the days, if the inspector never looks before it.
func plan(days, looks int) []api.Ratio {
	var list []api.Ratio
	stayed := ratio(1, 1)
	for left := days; left > 0; left-- {
		// Of MaxDays days the products stay below 2^50.
		going := firstOf(left, looks).going
		list = append(list, ratio(stayed.Num*going.Num, stayed.Den*going.Den))
		stayed = ratio(stayed.Num*(going.Den-going.Num), stayed.Den*going.Den)
	}
	return list
}
