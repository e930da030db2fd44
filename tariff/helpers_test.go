package tariff_test

import (
	"fmt"
	"math/rand/v2"
	"slices"
	"strings"
	"testing"

	"cocket/api"
	"cocket/tariff"
)

// The tests call the package only as its users do, and hold it against slow answers of their own, which try things one by one.

// rule is a rule with this code and these bands: Lo, Hi, Lo, Hi ..
func rule(code int, ends ...int) api.Rule {
	r := api.Rule{Code: code}
	for i := 0; i < len(ends); i += 2 {
		r.Bands = append(r.Bands, api.Band{Lo: ends[i], Hi: ends[i+1]})
	}
	return r
}

// one is example 1 of the chapter, and two is example 3.
func one() []api.Rule {
	return []api.Rule{rule(1, 0, 10), rule(2, 5, 20), rule(3, 0, 20)}
}

func two() []api.Rule {
	return []api.Rule{rule(1, 0, 5, 0, 5), rule(2, 3, 8, 3, 8)}
}

// always is a rule that fits all things of k marks.
func always(k, code int) api.Rule {
	return api.Rule{Bands: slices.Repeat([]api.Band{{Lo: 0, Hi: 1000}}, k), Code: code}
}

func repeated(r api.Rule, times int) []api.Rule {
	return slices.Repeat([]api.Rule{r}, times)
}

func copied(t []api.Rule) []api.Rule {
	list := slices.Clone(t)
	for i := range list {
		list[i].Bands = slices.Clone(list[i].Bands)
	}
	return list
}

// slowCode is the code of a thing and the index of the rule that decides; -1, -1 if no rule fits.
func slowCode(t []api.Rule, thing []int) (int, int) {
	for i, r := range t {
		fits := true
		for m, b := range r.Bands {
			fits = fits && b.Lo <= thing[m] && thing[m] < b.Hi
		}
		if fits {
			return r.Code, i
		}
	}
	return -1, -1
}

func slowFits(r api.Rule, thing []int) bool {
	_, i := slowCode([]api.Rule{r}, thing)
	return i == 0
}

// edges lists the numbers of a mark at which a band of these tariffs begins or has just ended: at all numbers up to the next one, they say the same.
func edges(mark int, tariffs ...[]api.Rule) []int {
	list := []int{0}
	for _, t := range tariffs {
		for _, r := range t {
			list = append(list, r.Bands[mark].Lo)
			if r.Bands[mark].Hi < 1000 {
				list = append(list, r.Bands[mark].Hi)
			}
		}
	}
	slices.Sort(list)
	return slices.Compact(list)
}

// corners goes through the things all of whose marks are edges, in lexicographic order, each with the number of things for which it stands.
func corners(k int, tariffs ...[]api.Rule) func(yield func(thing []int, things int) bool) {
	var lists [][]int
	for m := range k {
		lists = append(lists, edges(m, tariffs...))
	}
	return func(yield func([]int, int) bool) {
		var extend func(thing []int, things int) bool
		extend = func(thing []int, things int) bool {
			m := len(thing)
			if m == k {
				return yield(slices.Clone(thing), things)
			}
			for i, lo := range lists[m] {
				hi := 1000
				if i+1 < len(lists[m]) {
					hi = lists[m][i+1]
				}
				if !extend(append(slices.Clone(thing), lo), things*(hi-lo)) {
					return false
				}
			}
			return true
		}
		extend(nil, 1)
	}
}

// every goes through all things of one or two marks, in lexicographic order.
func every(k int) func(yield func(thing []int) bool) {
	return func(yield func([]int) bool) {
		thing := make([]int, k)
		for i := range pow(1000, k) {
			for m := k - 1; m >= 0; m-- {
				thing[m] = i % 1000
				i /= 1000
			}
			if !yield(thing) {
				return
			}
		}
	}
}

func pow(base, times int) int {
	n := 1
	for range times {
		n *= base
	}
	return n
}

func slowGap(k int, t []api.Rule) []int {
	for thing := range corners(k, t) {
		if _, i := slowCode(t, thing); i < 0 {
			return thing
		}
	}
	return nil
}

func slowDiffer(k int, s, t []api.Rule) []int {
	for thing := range corners(k, s, t) {
		a, _ := slowCode(s, thing)
		b, _ := slowCode(t, thing)
		if a != b {
			return thing
		}
	}
	return nil
}

func slowClash(k int, t []api.Rule, i, j int) []int {
	for thing := range corners(k, t) {
		if slowFits(t[i], thing) && slowFits(t[j], thing) && t[i].Code != t[j].Code {
			return thing
		}
	}
	return nil
}

func slowCounts(k int, t []api.Rule) ([]int, int) {
	counts, none := make([]int, len(t)), 0
	for thing, things := range corners(k, t) {
		if _, i := slowCode(t, thing); i >= 0 {
			counts[i] += things
		} else {
			none += things
		}
	}
	return counts, none
}

// slowLean is the answer of Lean, by its words.
func slowLean(k int, t []api.Rule) []api.Rule {
	left := slices.Clone(t)
	for i := len(t) - 1; i >= 0; i-- {
		without := append(slices.Clone(left[:i]), left[i+1:]...)
		if slowDiffer(k, left, without) == nil {
			left = without
		}
	}
	return left
}

// slowDiagram is the answer of Diagram: it looks at every thing that is a corner, and tells nodes apart by what they print.
func slowDiagram(k int, t []api.Rule) []api.Node {
	nodes := map[string]api.Node{} // To is not used
	tos := map[string][]string{}
	var draw func(thing []int) string
	draw = func(thing []int) string {
		m := len(thing)
		if m == k {
			code, i := slowCode(t, thing)
			if i < 0 {
				return "-1"
			}
			return fmt.Sprint(-2 - code)
		}
		var cuts []int
		var to []string
		list := append(edges(m, t), 1000)
		for i, hi := range list[1:] {
			next := draw(append(slices.Clone(thing), list[i]))
			if len(to) > 0 && to[len(to)-1] == next {
				cuts[len(cuts)-1] = hi
				continue
			}
			cuts, to = append(cuts, hi), append(to, next)
		}
		if len(to) == 1 {
			return to[0]
		}
		name := fmt.Sprint("(", m, cuts, strings.Join(to, " "), ")")
		nodes[name], tos[name] = api.Node{Mark: m, Cuts: cuts}, to
		return name
	}
	first := draw(nil)
	if !strings.HasPrefix(first, "(") {
		n := 0
		fmt.Sscan(first, &n)
		return []api.Node{{Cuts: []int{1000}, To: []int{n}}}
	}
	return numbered(first, nodes, tos)
}

// numbered lists the nodes in the order in which they are first come to.
func numbered(first string, nodes map[string]api.Node, tos map[string][]string) []api.Node {
	var list []api.Node
	numbers := map[string]int{}
	var visit func(name string) int
	visit = func(name string) int {
		if !strings.HasPrefix(name, "(") {
			n := 0
			fmt.Sscan(name, &n)
			return n
		}
		if n, ok := numbers[name]; ok {
			return n
		}
		n := len(list)
		numbers[name] = n
		list = append(list, nodes[name])
		for _, next := range tos[name] {
			to := visit(next)
			list[n].To = append(list[n].To, to)
		}
		return n
	}
	visit(first)
	return list
}

// randomTariff has rules whose bands begin and end at few numbers and which have few codes, so that they often say the same.
func randomTariff(r *rand.Rand, k, most int) []api.Rule {
	ends := []int{0, 1, 2, 5, 400, 998, 999, 1000}
	t := make([]api.Rule, r.IntN(most+1))
	for i := range t {
		t[i].Code = []int{0, 1, 99}[r.IntN(3)]
		for range k {
			lo := r.IntN(len(ends) - 1)
			hi := lo + 1 + r.IntN(len(ends)-lo-1)
			if r.IntN(k+2) > 2 {
				lo, hi = 0, len(ends)-1
			}
			t[i].Bands = append(t[i].Bands, api.Band{Lo: ends[lo], Hi: ends[hi]})
		}
	}
	return t
}

// wideTariff has 24 rules whose bands begin and end anywhere, so that there are many sets of rules that fit.
func wideTariff(r *rand.Rand, k int) []api.Rule {
	t := make([]api.Rule, 24)
	for i := range t {
		t[i].Code = r.IntN(100)
		for range k {
			t[i].Bands = append(t[i].Bands, api.Band{Lo: r.IntN(500), Hi: 500 + r.IntN(501)})
		}
	}
	return t
}

// scattered has small rules anywhere.
func scattered(r *rand.Rand, k, rules int) []api.Rule {
	t := make([]api.Rule, rules)
	for i := range t {
		t[i].Code = r.IntN(100)
		for range k {
			lo := r.IntN(900)
			t[i].Bands = append(t[i].Bands, api.Band{Lo: lo, Hi: lo + 1 + r.IntN(100)})
		}
	}
	return t
}

func randomThing(r *rand.Rand, k int) []int {
	thing := make([]int, k)
	for m := range thing {
		thing[m] = []int{0, 1, 2, 4, 5, 399, 400, 998, 999, r.IntN(1000)}[r.IntN(10)]
	}
	return thing
}

// many calls f with random tariffs for each number of marks.
func many(times, most int, f func(r *rand.Rand, k int, t []api.Rule)) {
	for k := 1; k <= 4; k++ {
		r := rand.New(rand.NewPCG(uint64(k), 2))
		for range times {
			f(r, k, randomTariff(r, k, most))
		}
	}
}

func equalRule(a, b api.Rule) bool {
	return a.Code == b.Code && slices.Equal(a.Bands, b.Bands)
}

func equalTariffs(s, t []api.Rule) bool {
	return slices.EqualFunc(s, t, equalRule)
}

func equalDiagrams(a, b []api.Node) bool {
	return slices.EqualFunc(a, b, func(x, y api.Node) bool {
		return x.Mark == y.Mark && slices.Equal(x.Cuts, y.Cuts) && slices.Equal(x.To, y.To)
	})
}

// expectThing holds a thing and an error against the thing that is wanted, or nil for ErrPlan.
func expectThing(t *testing.T, what string, got []int, e api.Errno, want []int) {
	t.Helper()
	if want == nil && (e != api.ErrPlan || len(got) > 0) {
		t.Errorf("%s: %v, error %d; want ErrPlan", what, got, e)
	}
	if want != nil && (e != api.OK || !slices.Equal(got, want)) {
		t.Errorf("%s: %v, error %d; want %v", what, got, e, want)
	}
}

func mustDiagram(t *testing.T, k int, rules []api.Rule) []api.Node {
	t.Helper()
	d, e := tariff.Diagram(k, rules)
	if e != api.OK {
		t.Fatalf("Diagram(%d, %v): error %d", k, rules, e)
	}
	return d
}

func mustCounts(t *testing.T, k int, rules []api.Rule) ([]int, int) {
	t.Helper()
	counts, none, e := tariff.Counts(k, rules)
	if e != api.OK {
		t.Fatalf("Counts(%d, %v): error %d", k, rules, e)
	}
	return counts, none
}

func mustDead(t *testing.T, k int, rules []api.Rule) []int {
	t.Helper()
	dead, e := tariff.Dead(k, rules)
	if e != api.OK {
		t.Fatalf("Dead(%d, %v): error %d", k, rules, e)
	}
	return dead
}

func mustLean(t *testing.T, k int, rules []api.Rule) []api.Rule {
	t.Helper()
	lean, e := tariff.Lean(k, rules)
	if e != api.OK {
		t.Fatalf("Lean(%d, %v): error %d", k, rules, e)
	}
	return lean
}

// saysTheSame reports whether Differ finds no difference.
func saysTheSame(k int, s, t []api.Rule) bool {
	_, e := tariff.Differ(k, s, t)
	return e == api.ErrPlan
}
