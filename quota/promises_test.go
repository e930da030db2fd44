package quota_test

import (
	"math/big"
	"math/bits"
	"math/rand/v2"
	"slices"
	"testing"

	"cocket/api"
	"cocket/quota"
)

func TestP5_1ShareOfTheTalmud(t *testing.T) {
	cases := []struct {
		rule, estate int
		want         api.Parts
	}{
		{api.RuleTalmud, 0, parts(1, 0, 0, 0)},
		{api.RuleTalmud, 100, parts(3, 100, 100, 100)},
		{api.RuleTalmud, 150, parts(1, 50, 50, 50)},
		{api.RuleTalmud, 151, parts(2, 100, 101, 101)},
		{api.RuleTalmud, 200, parts(1, 50, 75, 75)},
		{api.RuleTalmud, 250, parts(1, 50, 100, 100)},
		{api.RuleTalmud, 300, parts(1, 50, 100, 150)},
		{api.RuleTalmud, 301, parts(1, 50, 100, 151)},
		{api.RuleTalmud, 400, parts(1, 50, 125, 225)},
		{api.RuleTalmud, 500, parts(3, 200, 500, 800)},
		{api.RuleTalmud, 600, parts(1, 100, 200, 300)},
		{api.RuleEqual, 0, parts(1, 0, 0, 0)},
		{api.RuleEqual, 100, parts(3, 100, 100, 100)},
		{api.RuleEqual, 300, parts(1, 100, 100, 100)},
		{api.RuleEqual, 301, parts(2, 200, 201, 201)},
		{api.RuleEqual, 400, parts(1, 100, 150, 150)},
		{api.RuleEqual, 501, parts(1, 100, 200, 201)},
		{api.RuleEqual, 600, parts(1, 100, 200, 300)},
		{api.RuleLoss, 0, parts(1, 0, 0, 0)},
		{api.RuleLoss, 99, parts(1, 0, 0, 99)},
		{api.RuleLoss, 100, parts(1, 0, 0, 100)},
		{api.RuleLoss, 101, parts(2, 0, 1, 201)},
		{api.RuleLoss, 300, parts(1, 0, 100, 200)},
		{api.RuleLoss, 301, parts(3, 1, 301, 601)},
		{api.RuleLoss, 600, parts(1, 100, 200, 300)},
		{api.RulePart, 0, parts(1, 0, 0, 0)},
		{api.RulePart, 200, parts(3, 100, 200, 300)},
		{api.RulePart, 300, parts(1, 50, 100, 150)},
		{api.RulePart, 599, parts(6, 599, 1198, 1797)},
		{api.RuleRun, 0, parts(1, 0, 0, 0)},
		{api.RuleRun, 100, parts(3, 100, 100, 100)},
		{api.RuleRun, 200, parts(3, 100, 250, 250)},
		{api.RuleRun, 300, parts(1, 50, 100, 150)},
		{api.RuleRun, 600, parts(1, 100, 200, 300)},
	}
	for _, c := range cases {
		expectShare(t, c.rule, of(c.estate, 100, 200, 300), c.want)
	}
}

func TestP5_1ShareAtTheEdges(t *testing.T) {
	const top = api.MaxEstate
	for _, rule := range everyRule {
		for n := 1; n <= api.MaxClaims; n++ {
			nothing := make([]int, n)
			expectShare(t, rule, problem{0, nothing}, parts(1, nothing...))
			all := slices.Repeat([]int{top}, n)
			expectShare(t, rule, problem{0, all}, parts(1, nothing...))
			expectShare(t, rule, problem{top, all}, lowest(parts(n, all...)))
			one := slices.Clone(nothing)
			one[n-1] = top
			expectShare(t, rule, problem{top, one}, parts(1, one...))
			expectShare(t, rule, problem{17, one}, parts(1, append(slices.Clone(nothing[1:]), 17)...))
		}
		expectShare(t, rule, of(7, 7), parts(1, 7))
		expectShare(t, rule, of(1, 1, 1), parts(2, 1, 1))
		expectShare(t, rule, of(1, 1, 1, 1, 1, 1, 1, 1), parts(7, 1, 1, 1, 1, 1, 1, 1))
		expectShare(t, rule, of(28, 1, 2, 3, 4, 5, 6, 7), parts(1, 1, 2, 3, 4, 5, 6, 7))
	}
	// The claims are not in order, and two are the same.
	expectShare(t, api.RuleEqual, of(10, 9, 1, 5, 1), parts(1, 4, 1, 4, 1))
	expectShare(t, api.RuleLoss, of(10, 9, 1, 5, 1), parts(1, 7, 0, 3, 0))
	expectShare(t, api.RulePart, of(10, 9, 1, 5, 1), parts(8, 45, 5, 25, 5))
	expectShare(t, api.RuleTalmud, of(10, 9, 1, 5, 1), parts(2, 13, 1, 5, 1))
	expectShare(t, api.RuleRun, of(10, 9, 1, 5, 1), parts(12, 75, 7, 31, 7))
	// Great numbers.
	expectShare(t, api.RulePart, of(99999, top, top, top, top, top, top, 99999), parts(233333,
		33333*top, 33333*top, 33333*top, 33333*top, 33333*top, 33333*top, 33333*99999))
	expectShare(t, api.RulePart, of(1, top, top, top, top, top, top, top-1), parts(699999,
		top, top, top, top, top, top, top-1))
}

func TestP5_1ShareAgainstSlow(t *testing.T) {
	test := func(p problem) {
		for _, rule := range everyRule {
			if got, want := mustShare(t, rule, p), slowShare(rule, p); !isExactly(got, want) {
				t.Fatalf("the rule %d of %v: %v, want %v", rule, p, got, want)
			}
		}
	}
	allTiny(test)
	many(1000, 5, 12, func(_ *rand.Rand, p problem) { test(p) })
	many(300, 7, 50, func(_ *rand.Rand, p problem) { test(p) })
	many(300, 7, api.MaxEstate, func(_ *rand.Rand, p problem) { test(p) })
}

func TestP5_1ShareOfNoRule(t *testing.T) {
	for _, rule := range append(otherNumbers(), 5, 6, 1<<32) {
		for _, p := range []problem{of(1, 1), of(0, 0), of(200, 100, 200, 300)} {
			if x, e := quota.Share(rule, p.estate, p.claims); !isNothing(x) || e != api.ErrArg {
				t.Errorf("the rule %d of %v: %v, error %d; want ErrArg", rule, p, x, e)
			}
		}
	}
}

func TestP5_2Is(t *testing.T) {
	const top = api.MaxShare
	p := of(200, 100, 200, 300)
	cases := []struct {
		what string
		p    problem
		x    api.Parts
		want bool
	}{
		{"the Talmud's", p, parts(1, 50, 75, 75), true},
		{"others", p, parts(1, 0, 0, 200), true},
		{"a whole claim", p, parts(1, 100, 100, 0), true},
		{"thirds", p, parts(3, 100, 250, 250), true},
		{"less than nothing", p, parts(1, -1, 101, 100), false},
		{"more than the claim", p, parts(1, 101, 99, 0), false},
		{"a bit more than the claim", p, parts(3, 301, 299, 0), false},
		{"more than the estate", p, parts(1, 50, 75, 76), false},
		{"less than the estate", p, parts(1, 50, 75, 74), false},
		{"a third more", p, parts(3, 100, 250, 251), false},
		{"a third less", p, parts(3, 100, 250, 249), false},
		{"not in lowest terms", p, parts(2, 100, 150, 150), false},
		{"not in lowest terms", p, parts(3, 150, 225, 225), false},
		{"not in lowest terms", p, parts(10, 1000, 500, 500), false},
		{"the divisor 0", p, parts(0, 50, 75, 75), false},
		{"the divisor 0, and nothing", of(0, 1), parts(0, 0), false},
		{"below 0", p, parts(-1, -50, -75, -75), false},
		{"below 0", p, parts(-3, -100, -250, -250), false},
		{"the zero value", p, api.Parts{}, false},
		{"the zero value, and nothing", of(0, 0), api.Parts{}, false},
		{"a share too few", p, parts(1, 100, 100), false},
		{"a share too many", p, parts(1, 50, 75, 75, 0), false},
		{"a share too many", of(1, 1), parts(1, 1, 0), false},
		{"far too many", p, api.Parts{Num: make([]int, 100000), Den: 1}, false},
		{"nothing", of(0, 5, 5), parts(1, 0, 0), true},
		{"nothing, not in lowest terms", of(0, 5, 5), parts(2, 0, 0), false},
		{"nothing of nothing", of(0, 0), parts(1, 0), true},
		{"one has all", of(7, 7), parts(1, 7), true},
		{"one has all of more", of(7, 9), parts(1, 7), true},
		{"one has more", of(7, 9), parts(1, 8), false},
		{"the greatest divisor", of(1, 1, 1), parts(top, 1, top-1), true},
		{"a greater one", of(1, 1, 1), parts(top+1, 1, top), false},
		{"the greatest numbers", of(100000, 100000, 100000), parts(top, 1, 100000*top-1), true},
		{"and one of them is too great", of(100000, 99999, 100000), parts(top, 100000*top-1, 1), false},
	}
	for _, c := range cases {
		if got, e := quota.Is(c.p.estate, c.p.claims, c.x); got != c.want || e != api.OK {
			t.Errorf("%s: %v of %v: %v, error %d", c.what, c.x, c.p, got, e)
		}
	}
}

// Sums and products that come round to what is asked for are not it.
func TestP5_2IsDoesNotOverflow(t *testing.T) {
	const quarter, top = 1 << 62, 1<<63 - 1
	for _, x := range []api.Parts{
		parts(1, quarter, quarter, quarter, quarter+1), parts(1, top, top, 2, 1), parts(1, top, -top, 1, 0), parts(1, -1<<63, -1<<63, 1, 0),
		parts(1<<32, 1<<32, 0, 0, 0), parts(quarter, 1, 0, 0, 0), parts(top, 1, 0, 0, 0), parts(-1<<63, 1, 0, 0, 0),
		parts(quarter, 0, 0, 0, quarter), parts(3, quarter, quarter, quarter, quarter+3),
	} {
		expectIs(t, of(1, 1, 1, 1, 1), x, false)
		expectIs(t, of(100000, 100000, 1, 0, 99999), x, false)
	}
	expectIs(t, of(4, 4, 4), parts(quarter, 1, -1), false)
	expectIs(t, of(0, 4, 4), parts(quarter, quarter, -quarter), false)
}

func TestP5_2IsAgainstAllNumbers(t *testing.T) {
	for _, p := range []problem{of(3, 2, 1, 2), of(0, 1, 0, 1), of(5, 2, 1, 2), of(1, 1, 1, 1), of(2, 0, 2, 1)} {
		for den := -1; den <= 4; den++ {
			most := max(1, den)*2 + 1
			for a := -1; a <= most; a++ {
				for b := -1; b <= most; b++ {
					for c := -1; c <= most; c++ {
						x := parts(den, a, b, c)
						expectIs(t, p, x, slowIs(p, x))
					}
				}
			}
		}
	}
}

func TestP5_2IsOfRandomShares(t *testing.T) {
	many(500, 7, api.MaxEstate, func(r *rand.Rand, p problem) {
		x := randomShares(r, p)
		expectIs(t, p, x, true)
		for i := range x.Num {
			for _, change := range []int{-1, 1} {
				y := parts(x.Den, slices.Clone(x.Num)...)
				y.Num[i] += change
				expectIs(t, p, y, false)
			}
		}
		turned := problem{p.estate, append(slices.Clone(p.claims[1:]), p.claims[0])}
		expectIs(t, turned, x, slowIs(turned, x))
	})
}

func TestP5_3Game(t *testing.T) {
	cases := []struct {
		p    problem
		want []int
	}{
		{of(200, 100, 200, 300), []int{0, 0, 0, 0, 0, 0, 100, 200}},
		{of(500, 100, 200, 300), []int{0, 0, 100, 200, 200, 300, 400, 500}},
		{of(600, 100, 200, 300), []int{0, 100, 200, 300, 300, 400, 500, 600}},
		{of(0, 100, 200, 300), make([]int, 8)},
		{of(2, 2, 1), []int{0, 1, 0, 2}},
		{of(7, 9), []int{0, 7}},
		{of(0, 0), []int{0, 0}},
	}
	for _, c := range cases {
		if got := mustGame(t, c.p); !slices.Equal(got, c.want) {
			t.Errorf("Game of %v: %v, want %v", c.p, got, c.want)
		}
	}
	test := func(_ *rand.Rand, p problem) {
		for set, value := range mustGame(t, p) {
			if want := slowValue(p, set); value != want {
				t.Fatalf("Game of %v: v(%d) is %d, want %d", p, set, value, want)
			}
		}
	}
	many(300, 7, 10, test)
	many(300, 7, api.MaxEstate, test)
}

func TestP5_3Excesses(t *testing.T) {
	p := of(200, 100, 200, 300)
	expectExcesses(t, p, parts(1, 50, 75, 75), -50, -50, -75, -75, -125, -125)
	expectExcesses(t, p, parts(1, 100, 100, 0), 0, 0, -100, -100, -100, -200)
	expectExcesses(t, p, parts(3, 100, 250, 250), -100, -200, -250, -250, -350, -350)
	expectExcesses(t, of(2, 2, 1), parts(2, 3, 1), -1, -1)
	expectExcesses(t, of(2, 2, 1), parts(1, 1, 1), 0, -1)
	expectExcesses(t, of(2, 2, 2), parts(3, 1, 5), -1, -5)
	expectExcesses(t, of(0, 0, 0), parts(1, 0, 0), 0, 0)
	expectExcesses(t, of(600, 100, 200, 300), parts(1, 100, 200, 300), 0, 0, 0, 0, 0, 0)
	expectExcesses(t, of(5, 5, 2), parts(1, 3, 2), 0, -2)
	// One claimant has neither sets nor excesses.
	for _, estate := range []int{0, 1, 9} {
		expectExcesses(t, of(estate, 9), parts(1, estate))
	}
	test := func(r *rand.Rand, p problem) {
		x := randomShares(r, p)
		expectExcesses(t, p, x, slowExcesses(p, x)...)
	}
	many(300, 7, 10, test)
	many(300, 7, api.MaxEstate, test)
	const den = api.MaxShare
	expectExcesses(t, of(100000, 100000, 100000), parts(den, 1, 100000*den-1), -1, 1-100000*den)
}

// otherParts are no shares of 200 of which 100, 200 and 300 are claimed.
func otherParts() []api.Parts {
	return []api.Parts{
		{}, {Den: 1}, {Num: []int{50, 75, 75}}, parts(1, 50, 75, 76), parts(1, 50, 75, 74), parts(2, 100, 150, 150), parts(1, 101, 99, 0), parts(1, -1, 101, 100),
		parts(-1, -50, -75, -75), parts(1, 100, 100), parts(1, 50, 75, 75, 0), parts(1, 1<<62, 1<<62, -1<<63+200), parts(1<<62, 1, 1, 1), {Num: make([]int, 100000), Den: 1},
		parts(api.MaxShare+1, 1, 100*(api.MaxShare+1), 100*(api.MaxShare+1)-1),
	}
}

func TestP5_3ExcessesOfNoShares(t *testing.T) {
	for _, x := range otherParts() {
		if got, e := quota.Excesses(200, []int{100, 200, 300}, x); len(got) != 0 || e != api.ErrArg {
			t.Errorf("Excesses of %v: %v, error %d; want ErrArg", x, got, e)
		}
	}
	for _, x := range []api.Parts{{}, parts(1, 8), parts(2, 14), parts(0, 7)} {
		if got, e := quota.Excesses(7, []int{9}, x); len(got) != 0 || e != api.ErrArg {
			t.Errorf("Excesses of %v: %v, error %d; want ErrArg", x, got, e)
		}
	}
}

func TestP5_4Contest(t *testing.T) {
	const top = api.MaxEstate
	cases := []struct {
		estate, a, b int
		want         api.Parts
	}{
		{1, 1, 1, parts(2, 1, 1)},
		{2, 2, 1, parts(2, 3, 1)},
		{2, 1, 2, parts(2, 1, 3)},
		{4, 4, 2, parts(1, 3, 1)},
		{2, 2, 2, parts(1, 1, 1)},
		{2, 3, 9, parts(1, 1, 1)},
		{3, 2, 2, parts(2, 3, 3)},
		{3, 9, 2, parts(1, 2, 1)},
		{3, 2, 1, parts(1, 2, 1)},
		{10, 7, 5, parts(1, 6, 4)},
		{10, 5, 7, parts(1, 4, 6)},
		{5, 5, 0, parts(1, 5, 0)},
		{5, 0, 5, parts(1, 0, 5)},
		{5, 0, 6, parts(1, 0, 5)},
		{0, 0, 0, parts(1, 0, 0)},
		{0, 3, 4, parts(1, 0, 0)},
		{top, top, top, parts(1, top/2, top/2)},
		{top, top, 1, parts(2, 2*top-1, 1)},
		{top, top - 1, 1, parts(1, top-1, 1)},
		{1, top, top, parts(2, 1, 1)},
	}
	for _, c := range cases {
		expectContest(t, c.estate, c.a, c.b, c.want)
	}
}

func TestP5_4ContestAgainstSlow(t *testing.T) {
	test := func(p problem) {
		got, e := quota.Contest(p.estate, p.claims[0], p.claims[1])
		want := slowContest(whole(p.estate), whole(p.claims[0]), whole(p.claims[1]))
		if !isExactly(got, want) || e != api.OK {
			t.Fatalf("Contest of %v: %v, error %d; want %v", p, got, e, want)
		}
	}
	eachTiny(2, 12, test)
	many(1000, 2, api.MaxEstate, func(_ *rand.Rand, p problem) {
		if len(p.claims) == 2 {
			test(p)
		}
	})
}

func TestP5_4ContestErrors(t *testing.T) {
	const top = api.MaxEstate
	cases := [][]int{
		{2, 1, 0}, {1, 0, 0}, {top, top / 2, top/2 - 1}, {top + 1, top, top}, {1, top + 1, 0}, {1, 0, top + 1}, {1, top + 1, top + 1},
		{-1, 1, 1}, {0, -1, 1}, {0, 1, -1}, {1, -1, 2}, {1, 2, -1}, {-1, -1, -1},
	}
	for _, n := range otherNumbers() {
		cases = append(cases, []int{n, 1, 1}, []int{1, n, 1}, []int{1, 1, n}, []int{n, n, n}, []int{0, n, n}, []int{1, n, -n})
	}
	for _, c := range cases {
		if got, e := quota.Contest(c[0], c[1], c[2]); !isNothing(got) || e != api.ErrArg {
			t.Errorf("Contest of %v: %v, error %d; want ErrArg", c, got, e)
		}
	}
}

func TestP5_5Fair(t *testing.T) {
	p := of(200, 100, 200, 300)
	expectFair(t, p, parts(1, 50, 75, 75))
	expectFair(t, of(100, 100, 200, 300), parts(3, 100, 100, 100))
	expectFair(t, of(301, 100, 200, 300), parts(1, 50, 100, 151))
	expectFair(t, of(500, 100, 200, 300), parts(3, 200, 500, 800))
	expectFair(t, of(3, 2, 2), parts(2, 3, 3))
	// The first pair is 0, 1, but it is fair in the first of these, and so is 0, 2 in the second.
	expectFair(t, p, parts(1, 50, 70, 80), 1, 2)
	expectFair(t, p, parts(1, 60, 70, 70), 0, 1)
	expectFair(t, p, parts(1, 50, 50, 100), 1, 2)
	expectFair(t, p, parts(1, 40, 60, 100), 0, 1)
	expectFair(t, p, parts(1, 40, 40, 120), 0, 2)
	expectFair(t, of(6, 2, 2, 2, 9), parts(1, 1, 1, 0, 4), 0, 2)
	expectFair(t, of(8, 2, 2, 2, 9), parts(1, 1, 1, 1, 5))
	expectFair(t, of(7, 4, 4, 4, 4), parts(1, 2, 2, 2, 1), 0, 3)
	expectFair(t, of(7, 4, 4, 4, 4), parts(1, 2, 2, 1, 2), 0, 2)
	expectFair(t, of(7, 4, 4, 4, 4), parts(1, 2, 1, 2, 2), 0, 1)
	expectFair(t, of(7, 4, 4, 4, 4), parts(4, 7, 7, 7, 7))
	// Sums of two shares that are no whole numbers.
	expectFair(t, of(2, 2, 2, 2), parts(3, 2, 2, 2))
	expectFair(t, of(2, 2, 2, 2), parts(3, 2, 1, 3), 0, 1)
	expectFair(t, of(2, 1, 1, 1), parts(3, 2, 2, 2))
}

func TestP5_5FairErrors(t *testing.T) {
	for _, x := range otherParts() {
		if got, e := quota.Fair(200, []int{100, 200, 300}, x); len(got) != 0 || e != api.ErrArg {
			t.Errorf("Fair of %v: %v, error %d; want ErrArg", x, got, e)
		}
	}
	for _, estate := range []int{0, 1, 9} {
		expectFair(t, of(estate, 9), parts(1, estate))
		if got, e := quota.Fair(estate, []int{9}, parts(2, estate*2)); len(got) != 0 || e != api.ErrArg {
			t.Errorf("not in lowest terms: %v, error %d; want ErrArg", got, e)
		}
	}
}

func TestP5_5FairAgainstSlow(t *testing.T) {
	unfair := 0
	test := func(r *rand.Rand, p problem) {
		for _, rule := range everyRule {
			x := mustShare(t, rule, p)
			expectFair(t, p, x, slowFair(p, x)...)
		}
		x := randomShares(r, p)
		want := slowFair(p, x)
		expectFair(t, p, x, want...)
		if y, ok := moved(r, p, mustShare(t, api.RuleTalmud, p)); ok {
			expectFair(t, p, y, slowFair(p, y)...)
			unfair++
		}
	}
	many(400, 5, 12, test)
	many(300, 7, api.MaxEstate, test)
	if unfair < 100 {
		t.Errorf("%d are nearly fair: too few to tell", unfair)
	}
}

func TestP5_6Balanced(t *testing.T) {
	one := func(n int) []int { return slices.Repeat([]int{1}, n) }
	expectWeights(t, 1, []int{1}, parts(1, 1))
	expectWeights(t, 3, []int{7}, parts(1, 1))
	expectWeights(t, 3, []int{1, 2, 4}, parts(1, 1, 1, 1))
	expectWeights(t, 3, []int{3, 4}, parts(1, 1, 1))
	expectWeights(t, 3, []int{3, 5, 6}, parts(2, 1, 1, 1))
	expectWeights(t, 3, []int{6, 3, 5}, parts(2, 1, 1, 1))
	expectWeights(t, 4, []int{7, 11, 13, 14}, parts(3, 1, 1, 1, 1))
	expectWeights(t, 4, []int{3, 5, 9, 14}, parts(3, 1, 1, 1, 2))
	expectWeights(t, 7, []int{127}, parts(1, 1))
	expectWeights(t, 7, []int{1, 2, 4, 8, 16, 32, 64}, parts(1, one(7)...))
	expectWeights(t, 7, []int{63, 95, 111, 119, 123, 125, 126}, parts(6, one(7)...))
	// The lines of the plane of seven points, and what they leave.
	lines := []int{0b0000111, 0b0011001, 0b1100001, 0b0101010, 0b1010010, 0b0110100, 0b1001100}
	expectWeights(t, 7, lines, parts(3, one(7)...))
	left := slices.Clone(lines)
	for i := range left {
		left[i] ^= 127
	}
	expectWeights(t, 7, left, parts(4, one(7)...))
	expectBalanced(t, 7, append(lines, left...), true)
	expectBalanced(t, 3, []int{7, 1, 6}, true)
	expectBalanced(t, 3, []int{7, 3, 5, 6}, true)
	expectBalanced(t, 3, []int{1, 2, 3, 4, 5, 6, 7}, true)
	expectBalanced(t, 3, []int{1, 2, 3, 4}, true)
	expectBalanced(t, 3, []int{4, 4, 3}, true)
	expectBalanced(t, 1, []int{1, 1, 1}, true)
}

func TestP5_6BalancedNot(t *testing.T) {
	for n := 1; n <= api.MaxClaims; n++ {
		expectBalanced(t, n, nil, false)
		expectBalanced(t, n, []int{}, false)
	}
	// Somebody is in no set; or is in all sets that another one is in, and in more.
	expectBalanced(t, 2, []int{1}, false)
	expectBalanced(t, 3, []int{3}, false)
	expectBalanced(t, 3, []int{1, 2}, false)
	expectBalanced(t, 3, []int{3, 5}, false)
	expectBalanced(t, 7, []int{126, 125}, false)
	// The weights would do if one of them were 0.
	expectBalanced(t, 2, []int{3, 1}, false)
	expectBalanced(t, 2, []int{2, 3}, false)
	expectBalanced(t, 3, []int{1, 6, 2}, false)
	expectBalanced(t, 3, []int{1, 2, 6}, false)
	expectBalanced(t, 3, []int{7, 1}, false)
	expectBalanced(t, 3, []int{7, 1, 2}, false)
	expectBalanced(t, 3, []int{7, 3, 5}, false)
	expectBalanced(t, 4, []int{1, 2, 12, 4}, false)
	expectBalanced(t, 4, []int{3, 12, 5}, false)
	expectBalanced(t, 4, []int{3, 6, 12, 8}, false)
	expectBalanced(t, 7, []int{127, 63}, false)
	expectBalanced(t, 7, []int{1, 2, 4, 8, 16, 32, 64, 3, 96, 127, 63}, true)
	expectBalanced(t, 7, []int{1, 2, 4, 8, 16, 32, 96, 3, 127, 63}, false)
	// They would do if one of them were below 0.
	expectBalanced(t, 3, []int{3, 6, 2}, false)
	expectBalanced(t, 3, []int{6, 3, 2, 7}, false)
}

func TestP5_6BalancedOfMany(t *testing.T) {
	var all []int
	for set := 1; set <= 127; set++ {
		all = append(all, set)
	}
	expectBalanced(t, 7, all, true)
	expectBalanced(t, 7, append(slices.Clone(all), 127), true)
	expectBalanced(t, 7, append(slices.Clone(all), 1), true)
	expectBalanced(t, 7, all[:63], false) // without the last claimant
	expectBalanced(t, 7, all[:64], true)
	expectBalanced(t, 7, all[1:], true)
	expectBalanced(t, 7, slices.Repeat([]int{127}, 128), true)
	expectBalanced(t, 1, slices.Repeat([]int{1}, 128), true)
	expectBalanced(t, 2, append(slices.Repeat([]int{1}, 127), 2), true)
	expectBalanced(t, 2, append(slices.Repeat([]int{1}, 127), 3), false)
	expectBalanced(t, 7, slices.Repeat([]int{63, 95, 111, 119, 123, 125, 126, 127}, 16), true)
	expectBalanced(t, 7, append(slices.Repeat([]int{127}, 127), 126), false)
	expectBalanced(t, 6, slices.DeleteFunc(all, func(set int) bool { return set > 63 }), true)
}

func TestP5_6BalancedErrors(t *testing.T) {
	expect := func(n int, sets []int) {
		t.Helper()
		if got, e := quota.Balanced(n, sets); !isNothing(got) || e != api.ErrArg {
			t.Errorf("Balanced of %d sets of %d: %v, error %d; want ErrArg", len(sets), n, got, e)
		}
	}
	for _, n := range append(otherNumbers(), 0, 8, 63, 64, 65) {
		for _, sets := range [][]int{nil, {1}, {0}, {255}, make([]int, 200)} {
			expect(n, sets)
		}
	}
	for n := 1; n <= api.MaxClaims; n++ {
		for _, bad := range append(otherNumbers(), 0, 1<<n, 1<<n+1, 1<<32|1) {
			expect(n, []int{bad})
			expect(n, []int{1<<n - 1, bad})
			expect(n, []int{bad, 1<<n - 1})
		}
		expectBalanced(t, n, slices.Repeat([]int{1<<n - 1}, 128), true)
		expect(n, slices.Repeat([]int{1<<n - 1}, 129))
		expect(n, slices.Repeat([]int{1<<n - 1}, 100000))
	}
}

// All families of sets of at most four claimants.
func TestP5_6BalancedAgainstSlow(t *testing.T) {
	for n := 1; n <= 4; n++ {
		for family := range 1 << (1<<n - 1) {
			var sets []int
			for set := 1; set < 1<<n; set++ {
				if family>>(set-1)&1 == 1 {
					sets = append(sets, set)
				}
			}
			expectBalanced(t, n, sets, slowBalanced(n, sets))
		}
		if t.Failed() {
			return
		}
	}
	r, balanced := source(), 0
	for range 1000 {
		sets := make([]int, 4+r.IntN(12))
		for i := range sets {
			sets[i] = 1 + r.IntN(31)
		}
		want := slowBalanced(5, sets)
		expectBalanced(t, 5, sets, want)
		if want {
			balanced++
		}
	}
	if balanced < 100 || balanced > 900 {
		t.Errorf("%d of 1000 are balanced: too few to tell", balanced)
	}
}

// Seven sets of seven claimants have at most one solution, which may have a large divisor.
func TestP5_6BalancedHasTheOnlyWeights(t *testing.T) {
	r, balanced, most := source(), 0, 0
	for range 15000 {
		sets := make([]int, 7)
		for i := range sets {
			for bits.OnesCount(uint(sets[i])) < 3 {
				sets[i] = r.IntN(128)
			}
		}
		want := onlyWeights(7, sets)
		if want == nil {
			continue
		}
		if slices.ContainsFunc(want, func(weight *big.Rat) bool { return weight.Sign() <= 0 }) {
			expectBalanced(t, 7, sets, false)
			continue
		}
		got, e := quota.Balanced(7, sets)
		if !isExactly(got, want) || e != api.OK {
			t.Fatalf("Balanced of %v: %v, error %d; want %v", sets, got, e, want)
		}
		balanced++
		most = max(most, got.Den)
	}
	if balanced < 20 || most < 5 {
		t.Errorf("%d are balanced, divided by at most %d: too few to tell", balanced, most)
	}
}

// Parts of everybody are balanced, and so is what is made of such families; but no family of which somebody gains who pays nobody.
func TestP5_6BalancedByMaking(t *testing.T) {
	r := source()
	for range 1000 {
		var sets []int
		for range 1 + r.IntN(12) {
			blocks := make([]int, 1+r.IntN(7))
			for i := range 7 {
				blocks[r.IntN(len(blocks))] |= 1 << i
			}
			sets = append(sets, slices.DeleteFunc(blocks, func(set int) bool { return set == 0 })...)
		}
		r.Shuffle(len(sets), func(i, j int) { sets[i], sets[j] = sets[j], sets[i] })
		expectBalanced(t, 7, sets, true)
	}
	refuted := 0
	for range 1000 {
		taxes := make([]int, 7)
		for i := range taxes[:6] {
			taxes[i] = r.IntN(11) - 5
		}
		taxes[6] = -sum(taxes) - r.IntN(2)
		var sets []int
		for set := 1; set < 128; set++ {
			if sumOf(set, taxes) >= 0 && r.IntN(3) > 0 {
				sets = append(sets, set)
			}
		}
		if refutes(7, sets, taxes) {
			expectBalanced(t, 7, sets, false)
			refuted++
		}
	}
	if refuted < 500 {
		t.Errorf("%d are not balanced: too few to tell", refuted)
	}
}

func TestP5_7Nucleolus(t *testing.T) {
	p := of(200, 100, 200, 300)
	expectNucleolus(t, p, parts(1, 50, 75, 75), true)
	for _, x := range []api.Parts{parts(3, 200, 200, 200), parts(1, 0, 50, 150), parts(3, 100, 200, 300), parts(3, 100, 250, 250), parts(1, 50, 74, 76), parts(1, 50, 76, 74), parts(1, 49, 75, 76), parts(1, 51, 74, 75)} {
		expectIs(t, p, x, true)
		expectNucleolus(t, p, x, false)
	}
	// Not shares of the problem: false, and no error.
	for _, x := range otherParts() {
		expectNucleolus(t, p, x, false)
	}
	// One claimant: there are no sets, and all shares will do.
	for _, estate := range []int{0, 1, 9} {
		expectNucleolus(t, of(estate, 9), parts(1, estate), true)
		expectNucleolus(t, of(estate, 9), parts(1, estate+1), false)
		expectNucleolus(t, of(estate, 9), parts(2, 2*estate), false)
		expectNucleolus(t, of(estate, 9), api.Parts{}, false)
	}
	expectNucleolus(t, of(2, 2, 1), parts(2, 3, 1), true)
	expectNucleolus(t, of(2, 2, 1), parts(1, 1, 1), false)
	expectNucleolus(t, of(2, 2, 1), parts(1, 2, 0), false)
	expectNucleolus(t, of(0, 0, 0), parts(1, 0, 0), true)
	expectNucleolus(t, of(0, 5, 5), parts(1, 0, 0), true)
	expectNucleolus(t, of(7, 1, 1, 1, 1, 1, 1, 1), parts(1, 1, 1, 1, 1, 1, 1, 1), true)
	expectNucleolus(t, of(1, 1, 1, 1, 1, 1, 1, 1), parts(7, 1, 1, 1, 1, 1, 1, 1), true)
	expectNucleolus(t, of(1, 1, 1, 1, 1, 1, 1, 1), parts(1, 0, 0, 0, 0, 0, 0, 1), false)
	expectNucleolus(t, of(1, 1, 1, 1, 1, 1, 1, 1), parts(15, 2, 2, 2, 2, 2, 2, 3), false)
}

func TestP5_7NucleolusAgainstSlow(t *testing.T) {
	test := func(r *rand.Rand, p problem) {
		for _, rule := range everyRule {
			x := mustShare(t, rule, p)
			expectNucleolus(t, p, x, slowNucleolus(p, x))
		}
		x := randomShares(r, p)
		expectNucleolus(t, p, x, slowNucleolus(p, x))
		if y, ok := moved(r, p, mustShare(t, api.RuleTalmud, p)); ok {
			expectNucleolus(t, p, y, slowNucleolus(p, y))
		}
	}
	many(400, 4, 12, test)
	many(100, 4, api.MaxEstate, test)
	many(15, 5, 9, test)
}
