package tariff_test

import (
	"math/rand/v2"
	"reflect"
	"slices"
	"testing"
	"time"

	"cocket/api"
	"cocket/tariff"
)

// disturbed is a tariff that often says the same as another one: its rules are cut in two, repeated, left out or put into another place.
func disturbed(r *rand.Rand, t []api.Rule) []api.Rule {
	t = copied(t)
	if len(t) == 0 {
		return t
	}
	i, j := r.IntN(len(t)), r.IntN(len(t))
	switch r.IntN(4) {
	case 0:
		t[i], t[j] = t[j], t[i]
	case 1:
		t = slices.Delete(t, i, i+1)
	case 2:
		t = append(t, t[i])
	case 3:
		halves := copied([]api.Rule{t[i], t[i]})
		m := r.IntN(len(t[i].Bands))
		b := t[i].Bands[m]
		if middle := (b.Lo + b.Hi) / 2; b.Lo < middle {
			halves[0].Bands[m].Hi, halves[1].Bands[m].Lo = middle, middle
		}
		t = slices.Replace(t, i, i+1, halves...)
	}
	return t
}

func TestP2_8Canonical(t *testing.T) {
	same, other := 0, 0
	many(200, 8, func(r *rand.Rand, k int, s []api.Rule) {
		rules := disturbed(r, s)
		if saysTheSame(k, s, rules) != equalDiagrams(mustDiagram(t, k, s), mustDiagram(t, k, rules)) {
			t.Errorf("%v and %v: the same by Differ is %v, but not by their diagrams", s, rules, saysTheSame(k, s, rules))
		}
		if saysTheSame(k, s, rules) {
			same++
		} else {
			other++
		}
		d := mustDiagram(t, k, rules)
		for thing := range corners(k, rules) {
			if r.IntN(10) == 0 {
				expectFollow(t, k, rules, d, thing)
			}
		}
		expectFollow(t, k, rules, d, randomThing(r, k))
	})
	if same < 100 || other < 100 {
		t.Errorf("%d pairs say the same, %d do not: too few to tell", same, other)
	}
}

func TestP2_9Counts(t *testing.T) {
	gaps := 0
	many(200, 24, func(_ *rand.Rand, k int, rules []api.Rule) {
		counts, none := mustCounts(t, k, rules)
		dead := mustDead(t, k, rules)
		sum := none
		for i, n := range counts {
			sum += n
			if slices.Contains(dead, i) != (n == 0) {
				t.Errorf("%v: rule %d decides %d things, Dead are %v", rules, i, n, dead)
			}
		}
		if sum != pow(1000, k) || len(counts) != len(rules) {
			t.Errorf("%v: counts %v and %d sum to %d", rules, counts, none, sum)
		}
		if _, e := tariff.Gap(k, rules); (e == api.OK) != (none > 0) {
			t.Errorf("%v: Gap returns error %d, but %d things have no code", rules, e, none)
		} else if e == api.OK {
			gaps++
		}
	})
	if gaps == 0 || gaps == 800 {
		t.Errorf("%d of 800 tariffs have gaps: too few or too many to tell", gaps)
	}
}

func hasClash(k int, rules []api.Rule) bool {
	for i := range rules {
		for j := range i {
			if _, e := tariff.Clash(k, rules, i, j); e == api.OK {
				return true
			}
		}
	}
	return false
}

func TestP2_10Order(t *testing.T) {
	quiet := 0
	many(300, 4, func(r *rand.Rand, k int, rules []api.Rule) {
		shuffled := copied(rules)
		r.Shuffle(len(shuffled), func(i, j int) { shuffled[i], shuffled[j] = shuffled[j], shuffled[i] })
		if !hasClash(k, rules) {
			quiet++
			if !saysTheSame(k, rules, shuffled) || !equalDiagrams(mustDiagram(t, k, rules), mustDiagram(t, k, shuffled)) {
				t.Errorf("%v and %v do not say the same, but no rules clash", rules, shuffled)
			}
		}
		for _, i := range mustDead(t, k, rules) {
			without := slices.Delete(copied(rules), i, i+1)
			if !saysTheSame(k, rules, without) {
				t.Errorf("%v: rule %d is dead, but cannot be left out", rules, i)
			}
		}
		after := append(copied(rules), randomTariff(r, k, 1)...)
		if thing, e := tariff.Differ(k, rules, after); e == api.OK {
			if _, _, e := tariff.Code(k, rules, thing); e != api.ErrNone {
				t.Errorf("%v: a rule after the last one changes %v, which had a code", rules, thing)
			}
		}
	})
	if quiet < 100 {
		t.Errorf("only %d tariffs are without clashes: too few to tell", quiet)
	}
}

func TestP2_11Lean(t *testing.T) {
	many(200, 16, func(_ *rand.Rand, k int, rules []api.Rule) {
		lean := mustLean(t, k, rules)
		if !saysTheSame(k, rules, lean) || !equalDiagrams(mustDiagram(t, k, rules), mustDiagram(t, k, lean)) {
			t.Errorf("%v: lean is %v, which does not say the same", rules, lean)
		}
		if dead := mustDead(t, k, lean); len(dead) > 0 {
			t.Errorf("%v: lean is %v, of which %v are dead", rules, lean, dead)
		}
		if again := mustLean(t, k, lean); !equalTariffs(again, lean) {
			t.Errorf("%v: lean is %v, and lean of it %v", rules, lean, again)
		}
		for i := range lean {
			if saysTheSame(k, lean, slices.Delete(copied(lean), i, i+1)) {
				t.Errorf("%v: lean is %v, of which %d could be left out", rules, lean, i)
			}
		}
	})
}

// expectLeast checks that a thing is such a thing, and that no lesser corner is.
func expectLeast(t *testing.T, what string, got []int, is func(thing []int) bool, k int, tariffs ...[]api.Rule) {
	t.Helper()
	if !is(got) {
		t.Errorf("%s: %v is no such thing of %v", what, got, tariffs)
	}
	for thing := range corners(k, tariffs...) {
		if slices.Compare(thing, got) >= 0 {
			return
		}
		if is(thing) {
			t.Errorf("%s: %v, but %v is less, of %v", what, got, thing, tariffs)
			return
		}
	}
}

func TestP2_12Witnesses(t *testing.T) {
	many(400, 6, func(r *rand.Rand, k int, s []api.Rule) {
		rules := disturbed(r, s)
		if thing, e := tariff.Gap(k, s); e == api.OK {
			expectLeast(t, "Gap", thing, func(x []int) bool {
				_, _, e := tariff.Code(k, s, x)
				return e == api.ErrNone
			}, k, s)
		}
		if thing, e := tariff.Differ(k, s, rules); e == api.OK {
			expectLeast(t, "Differ", thing, func(x []int) bool {
				a, _, e := tariff.Code(k, s, x)
				b, _, f := tariff.Code(k, rules, x)
				return a != b || e != f
			}, k, s, rules)
		}
		for i := range s {
			if thing, e := tariff.Clash(k, s, i, 0); e == api.OK {
				expectLeast(t, "Clash", thing, func(x []int) bool {
					return slowFits(s[i], x) && slowFits(s[0], x) && s[i].Code != s[0].Code
				}, k, s)
			}
		}
	})
}

// tangled has 24 rules of four marks; in the last one each lies around those before it, so that none can be left out early, and most choices of bands leave a set of rules of their own.
func tangled(r *rand.Rand, code func(i int) int) []api.Rule {
	t := wideTariff(r, 4)
	for i := range t {
		t[i].Code = code(i)
		t[i].Bands[3] = api.Band{Lo: 490 - 4*i, Hi: 510 + 4*i}
	}
	return t
}

// P1: the largest tariffs are done in time too.
func TestP1Largest(t *testing.T) {
	begin := time.Now()
	r := rand.New(rand.NewPCG(1, 2))
	for _, rules := range [][]api.Rule{
		wideTariff(r, 4), wideTariff(r, 4), repeated(always(4, 1), 24),
		tangled(r, func(i int) int { return i }), tangled(r, func(int) int { return 5 }),
	} {
		d := mustDiagram(t, 4, rules)
		expectFollow(t, 4, rules, d, []int{500, 499, 501, 502})
		mustCounts(t, 4, rules)
		lean := mustLean(t, 4, rules)
		if !saysTheSame(4, rules, lean) {
			t.Error("lean does not say the same")
		}
		tariff.Gap(4, rules)
		tariff.Differ(4, rules, wideTariff(r, 4))
	}
	if past := time.Since(begin); past > 20*time.Second {
		t.Errorf("the largest tariffs took %v", past)
	}
}

// P2: the same arguments, the same results; no argument is changed, and no result shares memory with one or with another result.
func TestP2ResultsAreNew(t *testing.T) {
	many(30, 8, func(r *rand.Rand, k int, rules []api.Rule) {
		rules = append(rules, always(k, 3), always(k, 4))
		rules[len(rules)-1].Bands = rules[len(rules)-2].Bands // two rules may share their bands
		rules[0].Bands = slices.Clone(rules[0].Bands)
		thing := randomThing(r, k)
		results := func() []any {
			code, index, e := tariff.Code(k, rules, thing)
			gap, _ := tariff.Gap(k, rules[:1])
			counts, none, _ := tariff.Counts(k, rules)
			dead, _ := tariff.Dead(k, rules)
			differ, _ := tariff.Differ(k, rules, rules[1:])
			d, _ := tariff.Diagram(k, rules)
			followed, _ := tariff.Follow(k, d, thing)
			lean, _ := tariff.Lean(k, rules)
			clash, _ := tariff.Clash(k, rules, 0, len(rules)-1)
			return []any{code, index, e, gap, counts, none, dead, differ, d, followed, lean, clash}
		}
		rulesBefore, thingBefore := copied(rules), slices.Clone(thing)
		want := results()
		got := results()
		if !reflect.DeepEqual(got, want) {
			t.Fatalf("%v: %v, and then %v", rules, want, got)
		}
		for _, x := range got {
			spoil(x)
		}
		if !equalTariffs(rules, rulesBefore) || !slices.Equal(thing, thingBefore) {
			t.Fatalf("the arguments %v, %v have changed to %v, %v", rulesBefore, thingBefore, rules, thing)
		}
		if again := results(); !reflect.DeepEqual(again, want) {
			t.Fatalf("%v: %v, and then %v", rules, want, again)
		}
	})
}

// spoil overwrites all that a result holds, up to its capacity.
func spoil(x any) {
	switch list := x.(type) {
	case []int:
		fill(list)
	case []api.Node:
		for _, n := range list {
			fill(n.Cuts)
			fill(n.To)
		}
		clear(list[:cap(list)])
	case []api.Rule:
		for _, r := range list {
			r := r.Bands[:cap(r.Bands)]
			for i := range r {
				r[i] = api.Band{Lo: -7, Hi: -7}
			}
		}
		clear(list[:cap(list)])
	}
}

func fill(list []int) {
	list = list[:cap(list)]
	for i := range list {
		list[i] = -7
	}
}

// The slices within one result share no memory either.
func TestP2ResultsAreApart(t *testing.T) {
	r := rand.New(rand.NewPCG(3, 2))
	d := mustDiagram(t, 3, wideTariff(r, 3))
	for i := range d {
		want := slices.Clone(d[i].To)
		fill(d[i].Cuts)
		if !slices.Equal(d[i].To, want) {
			t.Fatalf("node %d: To shares memory with Cuts", i)
		}
	}
	for i := range d {
		fill(d[i].To)
		if i+1 < len(d) && (d[i+1].Cuts[0] != -7 || slices.Contains(d[i+1].To, -7)) {
			t.Fatalf("node %d shares memory with the node before", i+1)
		}
	}
	bands := []api.Band{{Lo: 0, Hi: 5}}
	lean := mustLean(t, 1, []api.Rule{{Bands: bands[:1:1], Code: 1}, rule(2, 4, 9)})
	lean[0].Bands[0].Lo = 3
	if bands[0].Lo != 0 || lean[1].Bands[0].Lo != 4 {
		t.Error("the result shares memory with the argument")
	}
	shared := []api.Band{{Lo: 0, Hi: 5}, {Lo: 5, Hi: 9}}
	lean = mustLean(t, 2, []api.Rule{{Bands: shared, Code: 1}, {Bands: []api.Band{{Lo: 5, Hi: 6}, {Lo: 0, Hi: 1}}, Code: 2}})
	lean[0].Bands[0].Lo = 3
	if shared[0].Lo != 0 {
		t.Error("the result shares memory with the argument")
	}
}
