package quota_test

import (
	"math/big"
	"math/rand/v2"
	"slices"
	"testing"

	"cocket/api"
	"cocket/quota"
)

// everySize calls test with tiny problems, all of them, and with small and large ones.
func everySize(test func(p problem)) {
	allTiny(test)
	many(300, 7, 20, func(_ *rand.Rand, p problem) { test(p) })
	many(200, 7, api.MaxEstate, func(_ *rand.Rand, p problem) { test(p) })
}

// isSameRats compares lists of numbers.
func isSameRats(a, b []*big.Rat) bool {
	return slices.EqualFunc(a, b, func(x, y *big.Rat) bool { return x.Cmp(y) == 0 })
}

func TestP5_8RulesGiveShares(t *testing.T) {
	everySize(func(p problem) {
		for _, rule := range everyRule {
			x := mustShare(t, rule, p)
			expectIs(t, p, x, true)
			if !slowIs(p, x) {
				t.Fatalf("the rule %d of %v: %v are no shares", rule, p, x)
			}
		}
	})
}

func TestP5_8RulesKeepTheOrderOfClaims(t *testing.T) {
	everySize(func(p problem) {
		for _, rule := range everyRule {
			shares := rats(mustShare(t, rule, p))
			for i, a := range p.claims {
				for j, b := range p.claims {
					loss, other := minus(whole(a), shares[i]), minus(whole(b), shares[j])
					if a == b && shares[i].Cmp(shares[j]) != 0 || a > b && (shares[i].Cmp(shares[j]) < 0 || loss.Cmp(other) < 0) {
						t.Fatalf("the rule %d of %v: %v, by the claims %d and %d", rule, p, shares, a, b)
					}
				}
			}
		}
	})
}

func TestP5_8NobodyGetsLessOfMore(t *testing.T) {
	test := func(p problem, more int) {
		for _, rule := range everyRule {
			x, y := rats(mustShare(t, rule, p)), rats(mustShare(t, rule, problem{p.estate + more, p.claims}))
			for i := range x {
				if y[i].Cmp(x[i]) < 0 {
					t.Fatalf("the rule %d of %v: %v; of %d more: %v", rule, p, x, more, y)
				}
			}
		}
	}
	everySize(func(p problem) {
		room := min(api.MaxEstate, sum(p.claims)) - p.estate
		for _, more := range []int{1, 2, room / 3, room} {
			if more <= room {
				test(p, more)
			}
		}
	})
}

// dual is the rule of which the shares are the claims less the rule's of what is missing.
func dual(rule int) int {
	switch rule {
	case api.RuleEqual:
		return api.RuleLoss
	case api.RuleLoss:
		return api.RuleEqual
	}
	return rule
}

func TestP5_9Duality(t *testing.T) {
	tested := 0
	everySize(func(p problem) {
		missing := sum(p.claims) - p.estate
		if missing > api.MaxEstate {
			return
		}
		for _, rule := range everyRule {
			x := rats(mustShare(t, rule, p))
			losses := rats(mustShare(t, dual(rule), problem{missing, p.claims}))
			if !isSameRats(x, lessOf(wholes(p.claims), losses)) {
				t.Fatalf("the rule %d of %v: %v; of what is missing, by its dual: %v", rule, p, x, losses)
			}
		}
		tested++
	})
	if tested < 500 {
		t.Errorf("%d are tested: too few to tell", tested)
	}
}

func TestP5_10Consistency(t *testing.T) {
	tested := 0
	everySize(func(p problem) {
		if len(p.claims) == 1 {
			return
		}
		for _, rule := range []int{api.RuleEqual, api.RuleLoss, api.RulePart, api.RuleTalmud} {
			shares := rats(mustShare(t, rule, p))
			for i, share := range shares {
				if !share.IsInt() {
					continue
				}
				rest := problem{p.estate - int(share.Num().Int64()), slices.Delete(slices.Clone(p.claims), i, i+1)}
				got := rats(mustShare(t, rule, rest))
				if want := slices.Delete(slices.Clone(shares), i, i+1); !isSameRats(got, want) {
					t.Fatalf("the rule %d of %v: %v; without the claimant %d: %v", rule, p, shares, i, got)
				}
				tested++
			}
		}
	})
	if tested < 2000 {
		t.Errorf("%d are tested: too few to tell", tested)
	}
}

func TestP5_11TalmudIsFair(t *testing.T) {
	everySize(func(p problem) {
		x := mustShare(t, api.RuleTalmud, p)
		expectFair(t, p, x)
		if len(p.claims) == 2 {
			expectContest(t, p.estate, p.claims[0], p.claims[1], x)
		}
	})
	many(500, 2, api.MaxEstate, func(_ *rand.Rand, p problem) {
		if len(p.claims) == 2 {
			expectContest(t, p.estate, p.claims[0], p.claims[1], mustShare(t, api.RuleTalmud, p))
		}
	})
}

// eachOther calls test with shares of tiny problems that are not those of RuleTalmud, and with such that nearly are.
func eachOther(t *testing.T, test func(p problem, talmud, x api.Parts)) {
	t.Helper()
	tested := 0
	try := func(p problem, talmud, x api.Parts) {
		if !isSameParts(x, talmud) {
			test(p, talmud, x)
			tested++
		}
	}
	tiny := func(p problem) {
		talmud := mustShare(t, api.RuleTalmud, p)
		for den := 1; den <= 4; den++ {
			for _, x := range allShares(p, den) {
				try(p, talmud, x)
			}
		}
	}
	eachTiny(2, 4, tiny)
	eachTiny(3, 3, tiny)
	many(500, 7, api.MaxEstate, func(r *rand.Rand, p problem) {
		talmud := mustShare(t, api.RuleTalmud, p)
		try(p, talmud, randomShares(r, p))
		if x, ok := moved(r, p, talmud); ok {
			try(p, talmud, x)
		}
	})
	if tested < 5000 {
		t.Errorf("%d others: too few to tell", tested)
	}
}

func TestP5_11NoOthersAreFair(t *testing.T) {
	eachOther(t, func(p problem, talmud, x api.Parts) {
		if pair, e := quota.Fair(p.estate, p.claims, x); len(pair) != 2 || e != api.OK {
			t.Fatalf("Fair of %v of %v: %v, error %d; the Talmud's are %v", x, p, pair, e, talmud)
		}
	})
}

func TestP5_12TalmudIsTheNucleolus(t *testing.T) {
	everySize(func(p problem) {
		expectNucleolus(t, p, mustShare(t, api.RuleTalmud, p), true)
	})
	eachOther(t, func(p problem, talmud, x api.Parts) {
		if is, e := quota.Nucleolus(p.estate, p.claims, x); is || e != api.OK {
			t.Fatalf("Nucleolus of %v of %v: %v, error %d; the Talmud's are %v", x, p, is, e, talmud)
		}
	})
}

func TestP5_12ItsExcessesAreTheLeast(t *testing.T) {
	eachOther(t, func(p problem, talmud, x api.Parts) {
		least := rats(parts(talmud.Den, mustExcesses(t, p, talmud)...))
		other := rats(parts(x.Den, mustExcesses(t, p, x)...))
		if slices.CompareFunc(least, other, func(a, b *big.Rat) int { return a.Cmp(b) }) > 0 {
			t.Fatalf("of %v: %v of the Talmud's %v; %v of %v", p, least, talmud, other, x)
		}
	})
}

func TestP5_13NoSetGetsLessThanTheOthersLeave(t *testing.T) {
	everySize(func(p problem) {
		values := mustGame(t, p)
		for _, rule := range everyRule {
			x := mustShare(t, rule, p)
			for set, value := range values {
				if sumOf(set, x.Num) < value*x.Den {
					t.Fatalf("the rule %d of %v: %v; v(%d) is %d", rule, p, x, set, value)
				}
			}
			if list := mustExcesses(t, p, x); len(list) > 0 && slices.Max(list) > 0 {
				t.Fatalf("the rule %d of %v: %v, the excesses are %v", rule, p, x, list)
			}
		}
	})
}

func TestP5_13RunIsTheShapleyValue(t *testing.T) {
	everySize(func(p problem) {
		values := mustGame(t, p)
		shapley := meanOfOrders(len(p.claims), func(order []int) []int {
			adds, set := make([]int, len(order)), 0
			for _, i := range order {
				adds[i] = values[set|1<<i] - values[set]
				set |= 1 << i
			}
			return adds
		})
		if x := mustShare(t, api.RuleRun, p); !isExactly(x, shapley) {
			t.Fatalf("RuleRun of %v: %v; the Shapley value is %v", p, x, shapley)
		}
	})
}
