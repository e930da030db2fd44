package quota_test

import (
	"fmt"
	"slices"
	"testing"
	"time"

	"cocket/api"
	"cocket/quota"
)

// outcome is an error, and whether every other result was its zero value.
type outcome struct {
	e    api.Errno
	zero bool
}

// calls makes a call of each function of claim problems.
func calls(p problem, rule int, x api.Parts) map[string]outcome {
	all := map[string]outcome{}
	shares, e := quota.Share(rule, p.estate, p.claims)
	all["Share"] = outcome{e, isNothing(shares)}
	is, e := quota.Is(p.estate, p.claims, x)
	all["Is"] = outcome{e, !is}
	list, e := quota.Game(p.estate, p.claims)
	all["Game"] = outcome{e, len(list) == 0}
	list, e = quota.Excesses(p.estate, p.claims, x)
	all["Excesses"] = outcome{e, len(list) == 0}
	list, e = quota.Fair(p.estate, p.claims, x)
	all["Fair"] = outcome{e, len(list) == 0}
	is, e = quota.Nucleolus(p.estate, p.claims, x)
	all["Nucleolus"] = outcome{e, !is}
	return all
}

// badProblems are none.
func badProblems() []problem {
	const top = api.MaxEstate
	list := []problem{
		{0, nil}, {0, []int{}}, {1, nil}, {0, make([]int, 8)}, {8, slices.Repeat([]int{1}, 8)}, {0, make([]int, 100000)},
		of(1, 0), of(8, 7), of(601, 100, 200, 300), of(top, top-1), of(top, top/2, top/2-1), of(28, 1, 2, 3, 4, 5, 6, 6),
		of(top+1, top, top), of(0, top+1), of(0, 1, top+1), of(1, 2, -1), of(0, -1), of(0, 0, 0, -1), of(-1, 0), of(-1, 5, 5), of(-1, -1),
	}
	for _, n := range otherNumbers() {
		list = append(list, of(n, 5, 5), of(1, n, 5), of(1, 5, n), of(0, n), of(n, n), of(n, n, n), of(0, n, -n), of(1, n, n, 5))
	}
	// Claims of which the sum overflows, and comes round.
	return append(list, of(1, 1<<62, 1<<62, 1<<62, 1<<62, 1), of(0, 1<<63-1, 1<<63-1, 2))
}

func TestErrorsOfAll(t *testing.T) {
	others := append(otherParts(), parts(1, 50, 75, 75), parts(1, 0), parts(1, 1), parts(1, 5, -4), parts(1, 0, 0), api.Parts{Num: make([]int, 8), Den: 1}, api.Parts{Den: 1})
	for _, p := range badProblems() {
		for _, rule := range []int{api.RuleEqual, api.RuleRun, -1, 5} {
			for _, x := range others {
				for name, got := range calls(p, rule, x) {
					if got.e != api.ErrArg || !got.zero {
						t.Fatalf("%s of %d and %d claims (%v), with %d and %v: error %d, zero %v; want ErrArg", name, p.estate, len(p.claims), p.claims[:min(9, len(p.claims))], rule, x, got.e, got.zero)
					}
				}
			}
		}
		if len(p.claims) == 2 {
			if x, e := quota.Contest(p.estate, p.claims[0], p.claims[1]); !isNothing(x) || e != api.ErrArg {
				t.Errorf("Contest of %v: %v, error %d; want ErrArg", p, x, e)
			}
		}
	}
}

// Problems as large as they can be are no error.
func TestLimitsOfAll(t *testing.T) {
	const top = api.MaxEstate
	for n := 1; n <= api.MaxClaims; n++ {
		claims := slices.Repeat([]int{top}, n)
		for _, p := range []problem{{0, claims}, {top, claims}, {0, make([]int, n)}, {top, append(make([]int, n-1), top)}} {
			for _, rule := range everyRule {
				x := mustShare(t, rule, p)
				for name, got := range calls(p, rule, x) {
					if got.e != api.OK {
						t.Errorf("%s of %v: error %d", name, p, got.e)
					}
				}
			}
		}
	}
}

// P1: no argument makes a function panic or go on for ever.
func TestP1AnyArguments(t *testing.T) {
	numbers := append(otherNumbers(), 0, 1, 2, 3, 5, 7, 8, 100, 127, 128, 100000, 100001, 1000000, 1000001)
	lists := [][]int{nil, {}, {0}, {1}, {7, 7}, {100, 200, 300}, {50, 75, 75}, {1, 2, 4, 8, 16, 32, 64}, {0, 0, 0, 0, 0, 0, 0}, {100000, 100000, 100000, 100000, 100000, 100000, 100000}, {1, 2, 3, 4, 5, 6, 7}, {3, 5, 6, 7, 1<<63 - 1, -1 << 63}, numbers, make([]int, 100000)}
	for _, n := range numbers {
		for _, list := range lists {
			quota.Game(n, list)
			quota.Balanced(n, list)
			for _, other := range numbers {
				quota.Share(other, n, list)
				quota.Contest(n, other, 5)
				quota.Contest(n, 5, other)
				quota.Contest(n, other, other)
				for _, num := range lists {
					calls(problem{n, list}, other, api.Parts{Num: num, Den: other})
				}
			}
		}
	}
}

// P1: what is as large as can be comes to an end soon.
func TestP1MostWork(t *testing.T) {
	start := time.Now()
	p := of(100000, 99991, 99989, 99971, 99961, 99929, 99923, 99907)
	for _, rule := range everyRule {
		x := mustShare(t, rule, p)
		for range 20 {
			calls(p, rule, x)
		}
	}
	r := source()
	for range 500 {
		sets := make([]int, 128)
		for i := range sets {
			sets[i] = 1 + r.IntN(127)
		}
		quota.Balanced(7, sets)
		for i := range sets {
			sets[i] |= 2 // one claimant is in all of them
		}
		quota.Balanced(7, sets)
	}
	if took := time.Since(start); took > 20*time.Second {
		t.Error(took)
	}
}

// families are some that are balanced, and some that are not.
func families() [][]int {
	return [][]int{{1}, {7, 1, 6}, {3, 5, 6}, {1, 2, 3, 4, 5, 6, 7}, {3, 5}, nil, {4, 4, 3}, {6, 1, 5, 2, 3, 4, 7, 7}}
}

// snapshot is all that the functions say of a problem, of shares and of families of sets.
func snapshot(p problem, some []api.Parts) string {
	var all []any
	for _, rule := range everyRule {
		shares, e := quota.Share(rule, p.estate, p.claims)
		all = append(all, shares, e)
		some = append(slices.Clip(some), shares)
	}
	values, e := quota.Game(p.estate, p.claims)
	all = append(all, values, e)
	for _, x := range some {
		is, e := quota.Is(p.estate, p.claims, x)
		all = append(all, is, e)
		list, e := quota.Excesses(p.estate, p.claims, x)
		all = append(all, list, e)
		list, e = quota.Fair(p.estate, p.claims, x)
		all = append(all, list, e)
		is, e = quota.Nucleolus(p.estate, p.claims, x)
		all = append(all, is, e)
	}
	for _, sets := range families() {
		weights, e := quota.Balanced(3, sets)
		all = append(all, weights, e)
	}
	two, e := quota.Contest(p.estate, p.claims[0], sum(p.claims)-p.claims[0])
	return fmt.Sprint(append(all, two, e)...)
}

// P2: the same arguments have the same results, whatever was called before; and no call changes its arguments.
func TestP2OnlyArguments(t *testing.T) {
	problems := []problem{of(200, 300, 100, 200), of(400, 300, 100, 200), of(9, 4, 5, 4, 1), of(0, 0), of(100000, 7, 100000, 99999, 3, 2, 1, 0)}
	for _, p := range problems {
		some := append(otherParts(), parts(1, 100, 50, 50), parts(2, 8, 6, 3, 1), lowest(parts(3, 2*p.estate, p.estate)))
		kept := fmt.Sprint(p, some)
		first := snapshot(p, some)
		for _, other := range problems {
			snapshot(other, nil)
			if snapshot(p, some) != first {
				t.Fatalf("another answer to the same question: %v, after %v", p, other)
			}
		}
		if fmt.Sprint(p, some) != kept {
			t.Fatalf("an argument is changed: %v, before: %s", p, kept)
		}
	}
	sets := families()
	for _, list := range sets {
		quota.Balanced(3, list)
	}
	if fmt.Sprint(sets) != fmt.Sprint(families()) {
		t.Errorf("the sets are changed: %v", sets)
	}
}

// spoil overwrites a result, and what lies behind it.
func spoil(list []int) {
	list = list[:cap(list)]
	for i := range list {
		list[i] = -77
	}
}

// P2: who writes into a result changes neither arguments nor other results.
func TestP2ResultsAreNewMemory(t *testing.T) {
	p := of(600, 300, 100, 200)
	x := parts(1, 300, 100, 200)
	first := snapshot(p, []api.Parts{x})
	for _, rule := range everyRule {
		shares := mustShare(t, rule, p)
		again := mustShare(t, rule, p)
		spoil(shares.Num)
		if !isSameParts(again, x) {
			t.Errorf("two results of the rule %d share memory: %v", rule, again)
		}
	}
	spoil(mustGame(t, p))
	spoil(mustExcesses(t, p, x))
	two, _ := quota.Contest(2, 2, 1)
	spoil(two.Num)
	unfair := of(200, 100, 200, 300)
	pair, _ := quota.Fair(unfair.estate, unfair.claims, parts(1, 60, 70, 70))
	spoil(pair)
	expectFair(t, unfair, parts(1, 60, 70, 70), 0, 1)
	sets := []int{3, 5, 6}
	weights, _ := quota.Balanced(3, sets)
	spoil(weights.Num)
	if !slices.Equal(sets, []int{3, 5, 6}) || !slices.Equal(p.claims, []int{300, 100, 200}) || !slices.Equal(x.Num, []int{300, 100, 200}) {
		t.Errorf("arguments are changed: %v, %v, %v", sets, p, x)
	}
	if snapshot(p, []api.Parts{x}) != first {
		t.Error("another answer after results were written into")
	}
}
