package quota_test

import (
	"math/rand/v2"
	"slices"
	"testing"

	"cocket/api"
	"cocket/quota"
)

// The tests call the package only as its users do, and hold it against slow answers of their own (slow_test.go).

// problem is an estate and the claims to it.
type problem struct {
	estate int
	claims []int
}

func of(estate int, claims ...int) problem {
	return problem{estate, claims}
}

// parts is these numbers, divided by den.
func parts(den int, num ...int) api.Parts {
	return api.Parts{Num: num, Den: den}
}

func isSameParts(a, b api.Parts) bool {
	return a.Den == b.Den && slices.Equal(a.Num, b.Num)
}

// isNothing reports whether these are the zero value; an empty list is the same as none.
func isNothing(p api.Parts) bool {
	return len(p.Num) == 0 && p.Den == 0
}

func sum(numbers []int) int {
	all := 0
	for _, number := range numbers {
		all += number
	}
	return all
}

// sumOf is the sum of the numbers of a set.
func sumOf(set int, numbers []int) int {
	all := 0
	for i, number := range numbers {
		if set>>i&1 == 1 {
			all += number
		}
	}
	return all
}

// everyRule is all rules.
var everyRule = []int{api.RuleEqual, api.RuleLoss, api.RulePart, api.RuleTalmud, api.RuleRun}

// otherNumbers are neither rules nor estates nor claims.
func otherNumbers() []int {
	return []int{-1 << 63, -1<<63 + 1, -1 << 32, -1, 1<<32 + 1, 1 << 62, 1<<63 - 1}
}

func source() *rand.Rand {
	return rand.New(rand.NewPCG(5, 2026))
}

// eachTiny calls test with every problem of so many claims that are at most most.
func eachTiny(n, most int, test func(p problem)) {
	claims := make([]int, n)
	var fill func(i int)
	fill = func(i int) {
		if i == n {
			for estate := range sum(claims) + 1 {
				test(problem{estate, slices.Clone(claims)})
			}
			return
		}
		for claim := range most + 1 {
			claims[i] = claim
			fill(i + 1)
		}
	}
	fill(0)
}

// allTiny calls test with every problem of at most three small claims.
func allTiny(test func(p problem)) {
	eachTiny(1, 6, test)
	eachTiny(2, 5, test)
	eachTiny(3, 4, test)
}

// many calls test with random problems of at most n claims that are at most most; some are the same, and some are 0.
func many(times, n, most int, test func(r *rand.Rand, p problem)) {
	r := source()
	for range times {
		claims := make([]int, 1+r.IntN(n))
		for i := range claims {
			switch r.IntN(8) {
			case 0:
				claims[i] = 0
			case 1:
				claims[i] = claims[r.IntN(i+1)]
			case 2:
				claims[i] = most
			default:
				claims[i] = r.IntN(most + 1)
			}
		}
		greatest := min(sum(claims), api.MaxEstate)
		estate := []int{0, greatest, min(sum(claims)/2, greatest), min((sum(claims)+1)/2, greatest)}[r.IntN(4)]
		if r.IntN(4) > 0 {
			estate = r.IntN(greatest + 1)
		}
		test(r, problem{estate, claims})
	}
}

// allShares lists all shares of a small problem that have this Den.
func allShares(p problem, den int) []api.Parts {
	var list []api.Parts
	num := make([]int, len(p.claims))
	var fill func(i, left int)
	fill = func(i, left int) {
		if i == len(num) {
			if left == 0 && isLowest(parts(den, num...)) {
				list = append(list, parts(den, slices.Clone(num)...))
			}
			return
		}
		for n := range min(left, p.claims[i]*den) + 1 {
			num[i] = n
			fill(i+1, left-n)
		}
	}
	fill(0, p.estate*den)
	return list
}

// randomShares is any shares of a problem.
func randomShares(r *rand.Rand, p problem) api.Parts {
	den := []int{1, 2, 1 + r.IntN(12), 1 + r.IntN(api.MaxShare)}[r.IntN(4)]
	num := make([]int, len(p.claims))
	left := p.estate * den
	for left > 0 {
		i := r.IntN(len(num))
		take := min(left, r.IntN(p.claims[i]*den-num[i]+1))
		if left < 10 { // and an end to it
			take = min(left, p.claims[i]*den-num[i])
		}
		num[i] += take
		left -= take
	}
	return lowest(parts(den, num...))
}

// moved is these shares when one claimant gives a bit to another one; false if they cannot.
func moved(r *rand.Rand, p problem, x api.Parts) (api.Parts, bool) {
	times := 1 + r.IntN(4)
	if x.Den*times > api.MaxShare {
		return api.Parts{}, false
	}
	y := parts(x.Den*times, slices.Clone(x.Num)...)
	for i := range y.Num {
		y.Num[i] *= times
	}
	i, j := r.IntN(len(y.Num)), r.IntN(len(y.Num))
	if i == j || y.Num[i] == 0 || y.Num[j] == p.claims[j]*y.Den {
		return api.Parts{}, false
	}
	y.Num[i]--
	y.Num[j]++
	return lowest(y), true
}

func expectShare(t *testing.T, rule int, p problem, want api.Parts) {
	t.Helper()
	if got, e := quota.Share(rule, p.estate, p.claims); !isSameParts(got, want) || e != api.OK {
		t.Errorf("the rule %d of %v: %v, error %d; want %v", rule, p, got, e, want)
	}
}

func mustShare(t *testing.T, rule int, p problem) api.Parts {
	t.Helper()
	x, e := quota.Share(rule, p.estate, p.claims)
	if e != api.OK || len(x.Num) != len(p.claims) || x.Den < 1 {
		t.Fatalf("the rule %d of %v: %v, error %d", rule, p, x, e)
	}
	return x
}

func expectIs(t *testing.T, p problem, x api.Parts, want bool) {
	t.Helper()
	if got, e := quota.Is(p.estate, p.claims, x); got != want || e != api.OK {
		t.Errorf("Is of %v of %v: %v, error %d; want %v", x, p, got, e, want)
	}
}

func expectExcesses(t *testing.T, p problem, x api.Parts, want ...int) {
	t.Helper()
	if got, e := quota.Excesses(p.estate, p.claims, x); !slices.Equal(got, want) || e != api.OK {
		t.Errorf("Excesses of %v of %v: %v, error %d; want %v", x, p, got, e, want)
	}
}

func mustExcesses(t *testing.T, p problem, x api.Parts) []int {
	t.Helper()
	list, e := quota.Excesses(p.estate, p.claims, x)
	if e != api.OK || len(list) != 1<<len(p.claims)-2 {
		t.Fatalf("Excesses of %v of %v: %v, error %d", x, p, list, e)
	}
	return list
}

func mustGame(t *testing.T, p problem) []int {
	t.Helper()
	values, e := quota.Game(p.estate, p.claims)
	if e != api.OK || len(values) != 1<<len(p.claims) {
		t.Fatalf("Game of %v: %v, error %d", p, values, e)
	}
	return values
}

func expectContest(t *testing.T, estate, a, b int, want api.Parts) {
	t.Helper()
	if got, e := quota.Contest(estate, a, b); !isSameParts(got, want) || e != api.OK {
		t.Errorf("Contest of %d, %d, %d: %v, error %d; want %v", estate, a, b, got, e, want)
	}
}

// expectFair expects a pair, or none.
func expectFair(t *testing.T, p problem, x api.Parts, want ...int) {
	t.Helper()
	if got, e := quota.Fair(p.estate, p.claims, x); !slices.Equal(got, want) || e != api.OK {
		t.Errorf("Fair of %v of %v: %v, error %d; want %v", x, p, got, e, want)
	}
}

func expectNucleolus(t *testing.T, p problem, x api.Parts, want bool) {
	t.Helper()
	if got, e := quota.Nucleolus(p.estate, p.claims, x); got != want || e != api.OK {
		t.Errorf("Nucleolus of %v of %v: %v, error %d; want %v", x, p, got, e, want)
	}
}

// expectBalanced expects some weights, or none.
func expectBalanced(t *testing.T, n int, sets []int, want bool) {
	t.Helper()
	got, e := quota.Balanced(n, sets)
	if want && (e != api.OK || !areWeights(n, sets, got)) {
		t.Errorf("Balanced of %v of %d: %v, error %d", sets, n, got, e)
	}
	if !want && (e != api.ErrPlan || !isNothing(got)) {
		t.Errorf("Balanced of %v of %d: %v, error %d; want ErrPlan", sets, n, got, e)
	}
}

// expectWeights expects the only weights there are.
func expectWeights(t *testing.T, n int, sets []int, want api.Parts) {
	t.Helper()
	if got, e := quota.Balanced(n, sets); !isSameParts(got, want) || e != api.OK {
		t.Errorf("Balanced of %v of %d: %v, error %d; want %v", sets, n, got, e, want)
	}
}
