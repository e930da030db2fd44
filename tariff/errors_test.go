package tariff_test

import (
	"math"
	"slices"
	"testing"

	"cocket/api"
	"cocket/tariff"
)

// outcome is an error, and whether every other result was its zero value.
type outcome struct {
	e    api.Errno
	zero bool
}

// calls makes a call of each function of one tariff; with other arguments that are wrong, if bad is true.
func calls(k int, t []api.Rule, bad bool) map[string]outcome {
	thing, i := make([]int, max(0, min(k, 4))), 0
	if bad {
		thing, i = []int{-1}, -1
	}
	all := map[string]outcome{}
	code, index, e := tariff.Code(k, t, thing)
	all["Code"] = outcome{e, code == 0 && index == 0}
	gap, e := tariff.Gap(k, t)
	all["Gap"] = outcome{e, len(gap) == 0}
	counts, none, e := tariff.Counts(k, t)
	all["Counts"] = outcome{e, len(counts) == 0 && none == 0}
	dead, e := tariff.Dead(k, t)
	all["Dead"] = outcome{e, len(dead) == 0}
	d, e := tariff.Diagram(k, t)
	all["Diagram"] = outcome{e, len(d) == 0}
	lean, e := tariff.Lean(k, t)
	all["Lean"] = outcome{e, len(lean) == 0}
	clash, e := tariff.Clash(k, t, i, i)
	all["Clash"] = outcome{e, len(clash) == 0}
	first, e := tariff.Differ(k, t, nil)
	all["Differ from none"] = outcome{e, len(first) == 0}
	second, e := tariff.Differ(k, nil, t)
	all["Differ of none"] = outcome{e, len(second) == 0}
	return all
}

func expectAll(t *testing.T, what string, k int, rules []api.Rule, want api.Errno) {
	t.Helper()
	for _, bad := range []bool{false, true} {
		for name, got := range calls(k, rules, bad) {
			if got.e != want || !got.zero {
				t.Errorf("%s: %s (other arguments wrong: %v): error %d, zero %v; want %d and zero values", what, name, bad, got.e, got.zero, want)
			}
		}
	}
}

// badRules are not valid for two marks.
func badRules() []api.Rule {
	return []api.Rule{
		{},
		rule(1),
		rule(1, 0, 5),
		rule(1, 0, 5, 0, 5, 0, 5),
		rule(-1, 0, 5, 0, 5),
		rule(100, 0, 5, 0, 5),
		rule(math.MinInt, 0, 5, 0, 5),
		rule(math.MaxInt, 0, 5, 0, 5),
		rule(1, -1, 5, 0, 5),
		rule(1, 0, 5, -1, 5),
		rule(1, 5, 5, 0, 5),
		rule(1, 0, 5, 6, 5),
		rule(1, 0, 1001, 0, 5),
		rule(1, 0, 5, 0, 1001),
		rule(1, 1000, 1001, 0, 5),
		rule(1, 1000, 1000, 0, 5),
		rule(1, math.MinInt, math.MaxInt, 0, 5),
		rule(1, math.MaxInt, math.MinInt, 0, 5),
		rule(1, 0, 5, 0, math.MaxInt),
		rule(1, 0, 5, math.MinInt, 5),
	}
}

// The errors that all functions of a tariff return first, and in which order.
func TestErrorsOfAll(t *testing.T) {
	for _, k := range []int{math.MinInt, -1, 0, 5, math.MaxInt} {
		expectAll(t, "k", k, nil, api.ErrArg)
		expectAll(t, "k, and too many rules", k, repeated(two()[0], 25), api.ErrArg)
		expectAll(t, "k, and a bad rule", k, repeated(api.Rule{}, 1), api.ErrArg)
	}
	expectAll(t, "too many rules", 2, repeated(two()[0], 25), api.ErrLimit)
	for _, r := range badRules() {
		expectAll(t, "a bad rule", 2, []api.Rule{r}, api.ErrArg)
		expectAll(t, "a bad rule after good ones", 2, append(two(), r), api.ErrArg)
		expectAll(t, "too many rules, the first one bad", 2, append([]api.Rule{r}, repeated(two()[0], 24)...), api.ErrLimit)
	}
	expectAll(t, "rules of one mark fewer", 2, one(), api.ErrArg)
	expectAll(t, "rules of one mark more", 1, two(), api.ErrArg)
}

// The greatest and least of all that is allowed.
func TestLimitsOfAll(t *testing.T) {
	for k := 1; k <= 4; k++ {
		for _, rules := range [][]api.Rule{nil, {}, repeated(always(k, 99), 24), repeated(always(k, 0), 1)} {
			for name, got := range calls(k, rules, false) {
				if got.e == api.ErrArg || got.e == api.ErrLimit {
					t.Errorf("%s of %d marks and %d rules: error %d", name, k, len(rules), got.e)
				}
			}
		}
		edge := []api.Rule{{Code: 99, Bands: slices.Repeat([]api.Band{{Lo: 999, Hi: 1000}}, k)}, {Code: 0, Bands: slices.Repeat([]api.Band{{Lo: 0, Hi: 1}}, k)}}
		if code, i, e := tariff.Code(k, edge, slices.Repeat([]int{999}, k)); code != 99 || i != 0 || e != api.OK {
			t.Errorf("Code of the greatest thing: %d, %d, error %d", code, i, e)
		}
		if code, i, e := tariff.Code(k, edge, slices.Repeat([]int{0}, k)); code != 0 || i != 1 || e != api.OK {
			t.Errorf("Code of the least thing: %d, %d, error %d", code, i, e)
		}
	}
}

// Differ looks at all of s, and then at all of t.
func TestErrorsOfDiffer(t *testing.T) {
	bad := []api.Rule{rule(100, 0, 1)}
	long := repeated(one()[0], 25)
	cases := []struct {
		name string
		k    int
		s, t []api.Rule
		want api.Errno
	}{
		{"k", 0, long, long, api.ErrArg},
		{"s is long, t is bad", 1, long, bad, api.ErrLimit},
		{"s is bad, t is long", 1, bad, long, api.ErrArg},
		{"t is bad", 1, one(), bad, api.ErrArg},
		{"t is long", 1, one(), long, api.ErrLimit},
		{"t is long and bad", 1, one(), repeated(bad[0], 25), api.ErrLimit},
		{"both are full", 1, repeated(one()[0], 24), repeated(one()[0], 24), api.ErrPlan},
	}
	for _, c := range cases {
		if thing, e := tariff.Differ(c.k, c.s, c.t); e != c.want || len(thing) > 0 {
			t.Errorf("%s: %v, error %d; want %d", c.name, thing, e, c.want)
		}
	}
}

// badThings are no things of two marks.
func badThings() [][]int {
	return [][]int{nil, {}, {1}, {1, 1, 1}, {-1, 1}, {1, -1}, {1000, 1}, {1, 1000}, {math.MinInt, 1}, {1, math.MaxInt}}
}

func TestErrorsOfCode(t *testing.T) {
	for _, thing := range badThings() {
		for _, rules := range [][]api.Rule{two(), nil, {always(2, 5)}} {
			if code, i, e := tariff.Code(2, rules, thing); code != 0 || i != 0 || e != api.ErrArg {
				t.Errorf("Code of %v: %d, %d, error %d; want ErrArg", thing, code, i, e)
			}
		}
	}
	for _, rules := range [][]api.Rule{two(), nil} {
		if code, i, e := tariff.Code(2, rules, []int{999, 0}); code != 0 || i != 0 || e != api.ErrNone {
			t.Errorf("Code of a thing that no rule fits: %d, %d, error %d; want ErrNone", code, i, e)
		}
	}
}

func TestErrorsOfClash(t *testing.T) {
	for _, i := range []int{math.MinInt, -1, 2, math.MaxInt} {
		for _, pair := range [][2]int{{i, 0}, {0, i}, {i, i}} {
			if thing, e := tariff.Clash(2, two(), pair[0], pair[1]); e != api.ErrNone || len(thing) > 0 {
				t.Errorf("Clash of %v: %v, error %d; want ErrNone", pair, thing, e)
			}
		}
	}
	if _, e := tariff.Clash(1, nil, 0, 0); e != api.ErrNone {
		t.Errorf("Clash without rules: error %d; want ErrNone", e)
	}
}

// node is a node with these cuts, each followed by where to go.
func node(mark int, pairs ...int) api.Node {
	n := api.Node{Mark: mark}
	for i := 0; i < len(pairs); i += 2 {
		n.Cuts, n.To = append(n.Cuts, pairs[i]), append(n.To, pairs[i+1])
	}
	return n
}

// badDiagrams are no diagrams of two marks.
func badDiagrams() map[string][]api.Node {
	leaf := node(1, 1000, -2)
	return map[string][]api.Node{
		"nil":                            nil,
		"empty":                          {},
		"a zero node":                    {{}},
		"too many nodes":                 slices.Repeat([]api.Node{leaf}, 200001),
		"mark -1":                        {node(-1, 1000, -2)},
		"mark 2":                         {node(2, 1000, -2)},
		"the least mark":                 {node(math.MinInt, 1000, -2)},
		"the greatest mark":              {node(math.MaxInt, 1000, -2)},
		"a first cut at 0":               {node(0, 0, -2, 1000, -3)},
		"a first cut below 0":            {node(0, -1, -2, 1000, -3)},
		"cuts that stay":                 {node(0, 5, -2, 5, -3, 1000, -4)},
		"cuts that descend":              {node(0, 5, -2, 4, -3, 1000, -4)},
		"a last cut too low":             {node(0, 5, -2, 999, -3)},
		"a last cut too high":            {node(0, 5, -2, 1001, -3)},
		"a cut after the last one":       {node(0, 1000, -2, 1001, -3)},
		"the greatest cut":               {node(0, 1000, -2, math.MaxInt, -3)},
		"the least cut":                  {node(0, math.MinInt, -2, 1000, -3)},
		"no cuts":                        {{Mark: 0, To: []int{-1}}},
		"no To":                          {{Mark: 0, Cuts: []int{1000}}},
		"a To too few":                   {{Mark: 0, Cuts: []int{5, 1000}, To: []int{-1}}},
		"a To too many":                  {{Mark: 0, Cuts: []int{1000}, To: []int{-1, -2}}},
		"no such node":                   {node(0, 1000, 1)},
		"the greatest node":              {node(0, 1000, math.MaxInt)},
		"itself":                         {node(0, 1000, 0)},
		"a node of the same mark":        {node(0, 1000, 1), node(0, 1000, -2)},
		"a node of a lesser mark":        {node(1, 1000, 1), node(0, 1000, -2)},
		"a code too high":                {node(0, 1000, -102)},
		"the least To":                   {node(0, 1000, math.MinInt)},
		"a bad To that is not followed":  {node(0, 500, -2, 1000, 7)},
		"a bad node that is not come to": {node(0, 1000, -2), node(1, 999, -2)},
		"a bad node behind a good one":   {node(0, 500, 1, 1000, -2), leaf, node(1, 1000, 1)},
	}
}

func TestErrorsOfFollow(t *testing.T) {
	good := []api.Node{node(0, 10, 1, 1000, -1), node(1, 1000, -3)}
	expect := func(what string, k int, d []api.Node, thing []int) {
		t.Helper()
		if code, e := tariff.Follow(k, d, thing); code != 0 || e != api.ErrArg {
			t.Errorf("%s: %d, error %d; want ErrArg", what, code, e)
		}
	}
	for _, k := range []int{math.MinInt, -1, 0, 5, math.MaxInt} {
		expect("k", k, good, []int{0, 0})
	}
	expect("k of five, and a thing", 5, good, []int{0, 0, 0, 0, 0})
	expect("k of none, and a thing", 0, good, nil)
	for _, thing := range badThings() {
		expect("a bad thing", 2, good, thing)
	}
	for name, d := range badDiagrams() {
		expect(name, 2, d, []int{3, 3})
	}
	expect("a mark too many", 1, good, []int{0})
	if code, e := tariff.Follow(2, good, []int{10, 0}); code != 0 || e != api.ErrNone {
		t.Errorf("a thing without code: %d, error %d; want ErrNone", code, e)
	}
}
