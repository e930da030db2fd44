package tariff_test

import (
	"math/rand/v2"
	"slices"
	"testing"

	"cocket/api"
	"cocket/tariff"
)

func TestP2_1Code(t *testing.T) {
	cases := []struct {
		name        string
		k           int
		rules       []api.Rule
		thing       []int
		code, index int
		want        api.Errno
	}{
		{"the first of two that fit", 1, one(), []int{7}, 1, 0, api.OK},
		{"a band's Lo is in it", 1, one(), []int{0}, 1, 0, api.OK},
		{"a band's Hi is not in it", 1, one(), []int{10}, 2, 1, api.OK},
		{"the last number of a band", 1, one(), []int{19}, 2, 1, api.OK},
		{"after all bands", 1, one(), []int{20}, 0, 0, api.ErrNone},
		{"both marks fit both rules", 2, two(), []int{3, 3}, 1, 0, api.OK},
		{"the second mark fits only the second rule", 2, two(), []int{4, 5}, 2, 1, api.OK},
		{"only the first mark fits", 2, two(), []int{0, 5}, 0, 0, api.ErrNone},
		{"only the second mark fits", 2, two(), []int{8, 0}, 0, 0, api.ErrNone},
		{"the code 0", 1, []api.Rule{rule(0, 5, 6)}, []int{5}, 0, 0, api.OK},
		{"the last rule of all", 1, append(repeated(rule(1, 0, 999), 23), rule(7, 999, 1000)), []int{999}, 7, 23, api.OK},
		{"no rules", 3, nil, []int{0, 0, 0}, 0, 0, api.ErrNone},
	}
	for _, c := range cases {
		code, index, e := tariff.Code(c.k, c.rules, c.thing)
		if code != c.code || index != c.index || e != c.want {
			t.Errorf("%s: %d, %d, error %d; want %d, %d, error %d", c.name, code, index, e, c.code, c.index, c.want)
		}
	}
}

func TestP2_1CodeOfRandom(t *testing.T) {
	many(500, 24, func(r *rand.Rand, k int, rules []api.Rule) {
		thing := randomThing(r, k)
		wantCode, wantIndex := slowCode(rules, thing)
		code, index, e := tariff.Code(k, rules, thing)
		if wantIndex < 0 && (code != 0 || index != 0 || e != api.ErrNone) {
			t.Errorf("%v of %v: %d, %d, error %d; want ErrNone", thing, rules, code, index, e)
		}
		if wantIndex >= 0 && (code != wantCode || index != wantIndex || e != api.OK) {
			t.Errorf("%v of %v: %d, %d, error %d; want %d, %d", thing, rules, code, index, e, wantCode, wantIndex)
		}
	})
}

func TestP2_2Gap(t *testing.T) {
	cases := []struct {
		name  string
		k     int
		rules []api.Rule
		want  []int
	}{
		{"example 1", 1, one(), []int{20}},
		{"example 3", 2, two(), []int{0, 5}},
		{"no rules", 3, nil, []int{0, 0, 0}},
		{"a rule for all", 4, []api.Rule{always(4, 5)}, nil},
		{"a cover of two", 1, []api.Rule{rule(1, 500, 1000), rule(2, 0, 500)}, nil},
		{"the last number", 1, []api.Rule{rule(1, 0, 999)}, []int{999}},
		{"the first number", 1, []api.Rule{rule(1, 1, 1000)}, []int{0}},
		{"a number between", 1, []api.Rule{rule(1, 0, 500), rule(1, 501, 1000)}, []int{500}},
		{"one thing of all", 2, []api.Rule{rule(1, 0, 999, 0, 1000), rule(2, 999, 1000, 0, 999)}, []int{999, 999}},
		{"one thing within", 2, []api.Rule{rule(1, 0, 7, 0, 1000), rule(2, 7, 8, 0, 3), rule(2, 7, 8, 4, 1000), rule(4, 8, 1000, 0, 1000)}, []int{7, 3}},
		{"a lesser first mark goes before a lesser second one", 2, []api.Rule{rule(1, 0, 5, 0, 900)}, []int{0, 900}},
	}
	for _, c := range cases {
		got, e := tariff.Gap(c.k, c.rules)
		expectThing(t, c.name, got, e, c.want)
	}
}

func TestP2_2Counts(t *testing.T) {
	cases := []struct {
		name  string
		k     int
		rules []api.Rule
		want  []int
		none  int
	}{
		{"example 1", 1, one(), []int{10, 10, 0}, 980},
		{"example 3", 2, two(), []int{25, 21}, 1000000 - 46},
		{"no rules", 4, nil, nil, 1000000000000},
		{"a rule for all, twice", 4, repeated(always(4, 5), 2), []int{1000000000000, 0}, 0},
		{"one thing", 3, []api.Rule{rule(5, 999, 1000, 0, 1, 7, 8)}, []int{1}, 999999999},
		{"a rule within an earlier one with the same code", 1, []api.Rule{rule(5, 0, 10), rule(5, 3, 4)}, []int{10, 0}, 990},
		{"a rule around an earlier one", 1, []api.Rule{rule(5, 3, 4), rule(5, 0, 10)}, []int{1, 9}, 990},
	}
	for _, c := range cases {
		counts, none, e := tariff.Counts(c.k, c.rules)
		if !slices.Equal(counts, c.want) || none != c.none || e != api.OK {
			t.Errorf("%s: %v, %d, error %d; want %v, %d", c.name, counts, none, e, c.want, c.none)
		}
	}
}

func TestP2_2Dead(t *testing.T) {
	cases := []struct {
		name  string
		k     int
		rules []api.Rule
		want  []int
	}{
		{"example 1: two others cover it", 1, one(), []int{2}},
		{"example 3: none", 2, two(), nil},
		{"no rules", 2, nil, nil},
		{"all but the first", 2, repeated(always(2, 3), 4), []int{1, 2, 3}},
		{"the last one is not covered by what comes after", 1, []api.Rule{rule(1, 0, 5), rule(2, 0, 10)}, nil},
		{"covered in one mark only", 2, []api.Rule{rule(1, 0, 5, 0, 5), rule(2, 0, 5, 0, 6)}, nil},
		{"four quarters cover the middle", 2, []api.Rule{rule(1, 0, 5, 0, 5), rule(2, 0, 5, 5, 9), rule(3, 5, 9, 0, 5), rule(4, 5, 9, 5, 9), rule(5, 2, 8, 2, 8)}, []int{4}},
	}
	for _, c := range cases {
		dead, e := tariff.Dead(c.k, c.rules)
		if !slices.Equal(dead, c.want) || e != api.OK {
			t.Errorf("%s: %v, error %d; want %v", c.name, dead, e, c.want)
		}
	}
}

func TestP2_2OfRandom(t *testing.T) {
	many(500, 6, func(_ *rand.Rand, k int, rules []api.Rule) {
		gap, e := tariff.Gap(k, rules)
		expectThing(t, "Gap", gap, e, slowGap(k, rules))
		counts, none := mustCounts(t, k, rules)
		wantCounts, wantNone := slowCounts(k, rules)
		if !slices.Equal(counts, wantCounts) || none != wantNone {
			t.Errorf("Counts of %v: %v, %d; want %v, %d", rules, counts, none, wantCounts, wantNone)
		}
		var wantDead []int
		for i, n := range wantCounts {
			if n == 0 {
				wantDead = append(wantDead, i)
			}
		}
		if dead := mustDead(t, k, rules); !slices.Equal(dead, wantDead) {
			t.Errorf("Dead of %v: %v; want %v", rules, dead, wantDead)
		}
	})
}

// Every single thing is looked at, so that nothing depends on where bands begin and end.
func TestP2_2OfEveryThing(t *testing.T) {
	r := rand.New(rand.NewPCG(2, 2))
	for k := 1; k <= 2; k++ {
		for _, rules := range [][]api.Rule{randomTariff(r, k, 12), scattered(r, k, 6), scattered(r, k, 12), wideTariff(r, k)} {
			wantCounts, wantNone := make([]int, len(rules)), 0
			var wantGap []int
			for thing := range every(k) {
				if _, i := slowCode(rules, thing); i >= 0 {
					wantCounts[i]++
					continue
				}
				if wantNone == 0 {
					wantGap = slices.Clone(thing)
				}
				wantNone++
			}
			counts, none := mustCounts(t, k, rules)
			if !slices.Equal(counts, wantCounts) || none != wantNone {
				t.Errorf("Counts of %v: %v, %d; want %v, %d", rules, counts, none, wantCounts, wantNone)
			}
			gap, e := tariff.Gap(k, rules)
			expectThing(t, "Gap", gap, e, wantGap)
		}
	}
}

func TestP2_3Differ(t *testing.T) {
	cases := []struct {
		name string
		k    int
		s, t []api.Rule
		want []int
	}{
		{"example 2: two halves and the whole", 1, []api.Rule{rule(1, 0, 10), rule(1, 10, 20)}, []api.Rule{rule(1, 0, 20)}, nil},
		{"no rules in both", 3, nil, nil, nil},
		{"no rules in one", 1, nil, one(), []int{0}},
		{"no rules in the other one", 1, []api.Rule{rule(1, 4, 5)}, nil, []int{4}},
		{"the code 0 and none", 2, []api.Rule{rule(0, 3, 4, 9, 10)}, nil, []int{3, 9}},
		{"without the first rule", 1, one(), one()[1:], []int{0}},
		{"without a dead rule", 1, one(), one()[:2], nil},
		{"another order", 2, two(), []api.Rule{two()[1], two()[0]}, []int{3, 3}},
		{"another order of rules that do not clash", 1, []api.Rule{rule(1, 0, 5), rule(2, 5, 9)}, []api.Rule{rule(2, 5, 9), rule(1, 0, 5)}, nil},
		{"the last thing of all", 4, []api.Rule{always(4, 3)}, []api.Rule{rule(4, 999, 1000, 999, 1000, 999, 1000, 999, 1000), always(4, 3)}, []int{999, 999, 999, 999}},
		{"a rule that decides otherwise, but says the same", 1, []api.Rule{rule(1, 0, 5), rule(1, 0, 9)}, []api.Rule{rule(1, 0, 9), rule(2, 0, 5)}, nil},
		{"a lesser first mark goes first", 2, []api.Rule{rule(1, 5, 6, 0, 1), rule(1, 4, 5, 999, 1000)}, nil, []int{4, 999}},
		{"the same dead rules, other deciding ones", 1, []api.Rule{rule(1, 0, 9), rule(3, 4, 5)}, []api.Rule{rule(1, 0, 4), rule(3, 4, 5), rule(1, 0, 9)}, []int{4}},
	}
	for _, c := range cases {
		got, e := tariff.Differ(c.k, c.s, c.t)
		expectThing(t, c.name, got, e, c.want)
		got, e = tariff.Differ(c.k, c.t, c.s)
		expectThing(t, c.name+", the other way round", got, e, c.want)
	}
}

func TestP2_3DifferOfRandom(t *testing.T) {
	many(800, 5, func(r *rand.Rand, k int, s []api.Rule) {
		other := randomTariff(r, k, 5)
		if r.IntN(2) == 0 && len(s) > 0 {
			other = copied(s)
			i := r.IntN(len(s))
			other[i].Bands[r.IntN(k)].Hi = 1000
		}
		got, e := tariff.Differ(k, s, other)
		expectThing(t, "Differ", got, e, slowDiffer(k, s, other))
	})
}

func TestP2_4Diagram(t *testing.T) {
	cases := []struct {
		name  string
		k     int
		rules []api.Rule
		want  []api.Node
	}{
		{"example 1", 1, one(), []api.Node{node(0, 10, -3, 20, -4, 1000, -1)}},
		{"example 3", 2, two(), []api.Node{
			node(0, 3, 1, 5, 2, 8, 3, 1000, -1),
			node(1, 5, -3, 1000, -1),
			node(1, 5, -3, 8, -4, 1000, -1),
			node(1, 3, -1, 8, -4, 1000, -1),
		}},
		{"no rules", 3, nil, []api.Node{node(0, 1000, -1)}},
		{"the same code for all", 2, []api.Rule{rule(7, 0, 500, 0, 1000), rule(7, 500, 1000, 0, 1000)}, []api.Node{node(0, 1000, -9)}},
		{"the greatest code for all", 4, []api.Rule{always(4, 99)}, []api.Node{node(0, 1000, -101)}},
		{"the code 0 for all", 1, []api.Rule{always(1, 0)}, []api.Node{node(0, 1000, -2)}},
		{"only the last mark matters", 3, []api.Rule{rule(7, 0, 1000, 0, 1000, 5, 6)}, []api.Node{node(2, 5, -1, 6, -9, 1000, -1)}},
		{"a mark is left out between", 3, []api.Rule{rule(7, 5, 1000, 0, 1000, 0, 6)}, []api.Node{node(0, 5, -1, 1000, 1), node(2, 6, -9, 1000, -1)}},
		{"a mark is left out on one way only", 2, []api.Rule{rule(7, 0, 5, 0, 1000), rule(8, 0, 1000, 0, 6)}, []api.Node{node(0, 5, -9, 1000, 1), node(1, 6, -10, 1000, -1)}},
		{"a node is come to twice", 2, []api.Rule{rule(7, 0, 5, 0, 6), rule(8, 5, 6, 0, 1000), rule(7, 6, 9, 0, 6)}, []api.Node{node(0, 5, 1, 6, -10, 9, 1, 1000, -1), node(1, 6, -9, 1000, -1)}},
		{"rules that touch become one band", 1, []api.Rule{rule(1, 3, 7), rule(1, 7, 9)}, []api.Node{node(0, 3, -1, 9, -3, 1000, -1)}},
		{"numbers go into the next node at once", 3, []api.Rule{rule(1, 0, 1, 0, 1, 0, 1), rule(2, 0, 1, 0, 1000, 0, 2), rule(3, 0, 1000, 0, 1000, 0, 3)}, []api.Node{
			node(0, 1, 1, 1000, 4),
			node(1, 1, 2, 1000, 3),
			node(2, 1, -3, 2, -4, 3, -5, 1000, -1),
			node(2, 2, -4, 3, -5, 1000, -1),
			node(2, 3, -5, 1000, -1),
		}},
	}
	for _, c := range cases {
		if d, e := tariff.Diagram(c.k, c.rules); e != api.OK || !equalDiagrams(d, c.want) {
			t.Errorf("%s: %v, error %d; want %v", c.name, d, e, c.want)
		}
	}
}

func TestP2_4DiagramOfRandom(t *testing.T) {
	many(500, 8, func(_ *rand.Rand, k int, rules []api.Rule) {
		d := mustDiagram(t, k, rules)
		if want := slowDiagram(k, rules); !equalDiagrams(d, want) {
			t.Errorf("Diagram of %v: %v; want %v", rules, d, want)
		}
	})
}

// The form of a diagram, for tariffs that are too large to try all things.
func TestP2_4FormOfDiagram(t *testing.T) {
	r := rand.New(rand.NewPCG(4, 2))
	for k := 1; k <= 4; k++ {
		rules := wideTariff(r, k)
		d := mustDiagram(t, k, rules)
		for i, n := range d {
			if len(n.To) < 2 || len(n.Cuts) != len(n.To) || n.Cuts[len(n.Cuts)-1] != 1000 || n.Cuts[0] <= 0 {
				t.Fatalf("node %d of %d marks: %v", i, k, n)
			}
			for j := 1; j < len(n.To); j++ {
				if n.To[j] == n.To[j-1] || n.Cuts[j] <= n.Cuts[j-1] {
					t.Fatalf("node %d of %d marks: %v", i, k, n)
				}
			}
			for _, to := range n.To {
				if to < -101 || to >= len(d) || to >= 0 && d[to].Mark <= n.Mark {
					t.Fatalf("node %d of %d marks: %v", i, k, n)
				}
			}
			for j := range i {
				if equalDiagrams(d[i:i+1], d[j:j+1]) {
					t.Fatalf("nodes %d and %d are the same: %v", i, j, n)
				}
			}
		}
		if next := lastVisited(d); next != len(d) {
			t.Errorf("%d of %d nodes are come to in order", next, len(d))
		}
		for range 2000 {
			expectFollow(t, k, rules, d, []int{r.IntN(1000), r.IntN(1000), r.IntN(1000), r.IntN(1000)}[:k])
		}
	}
}

// lastVisited goes through a diagram, and returns how many nodes it came to in the order of their indices; -1 if out of order.
func lastVisited(d []api.Node) int {
	next := 0
	var visit func(i int)
	visit = func(i int) {
		if i < 0 || next < 0 || i < next {
			return
		}
		if i > next {
			next = -1
			return
		}
		next++
		for _, to := range d[i].To {
			visit(to)
		}
	}
	visit(0)
	return next
}

// expectFollow holds Follow of a diagram against what the tariff says.
func expectFollow(t *testing.T, k int, rules []api.Rule, d []api.Node, thing []int) {
	t.Helper()
	code, e := tariff.Follow(k, d, thing)
	want, i := slowCode(rules, thing)
	if i < 0 && (code != 0 || e != api.ErrNone) || i >= 0 && (code != want || e != api.OK) {
		t.Errorf("Follow of %v by %v: %d, error %d; want %d by rule %d", thing, rules, code, e, want, i)
	}
}

func TestP2_5Follow(t *testing.T) {
	// Not the smallest one: a node with one To, neighbours that are the same, nodes that are the same or are not come to, a lesser index.
	loose := []api.Node{
		node(0, 1, 3, 5, -2, 7, -2, 9, 2, 999, -101, 1000, -1),
		node(3, 1000, -50),
		node(3, 1000, 1000-1002),
		node(1, 500, 1, 1000, 4),
		node(2, 1, 2, 1000, -7),
	}
	cases := []struct {
		name  string
		thing []int
		code  int
		want  api.Errno
	}{
		{"below the first cut", []int{0, 0, 9, 9}, 48, api.OK},
		{"at a cut", []int{1, 0, 0, 0}, 0, api.OK},
		{"neighbours that are the same", []int{5, 0, 0, 0}, 0, api.OK},
		{"a node that skips marks", []int{8, 0, 0, 0}, 0, api.OK},
		{"the greatest code", []int{998, 0, 0, 0}, 99, api.OK},
		{"no code", []int{999, 0, 0, 0}, 0, api.ErrNone},
		{"just below a cut", []int{0, 499, 0, 0}, 48, api.OK},
		{"from a cut on", []int{0, 500, 1, 0}, 5, api.OK},
		{"the greatest mark", []int{0, 999, 999, 999}, 5, api.OK},
		{"four nodes", []int{0, 999, 0, 999}, 0, api.OK},
	}
	for _, c := range cases {
		if code, e := tariff.Follow(4, loose, c.thing); code != c.code || e != c.want {
			t.Errorf("%s: %d, error %d; want %d, error %d", c.name, code, e, c.code, c.want)
		}
	}
	if code, e := tariff.Follow(2, []api.Node{node(1, 5, -1, 1000, -3)}, []int{0, 5}); code != 1 || e != api.OK {
		t.Errorf("a first node with a later mark: %d, error %d", code, e)
	}
	most := slices.Repeat([]api.Node{node(3, 1000, -5)}, 200000)
	most[0] = node(0, 1000, 199999)
	if code, e := tariff.Follow(4, most, []int{0, 0, 0, 0}); code != 3 || e != api.OK {
		t.Errorf("as many nodes as are allowed: %d, error %d", code, e)
	}
}

func TestP2_6Lean(t *testing.T) {
	cases := []struct {
		name  string
		k     int
		rules []api.Rule
		want  []int // which rules are left
	}{
		{"example 1", 1, one(), []int{0, 1}},
		{"example 3", 2, two(), []int{0, 1}},
		{"no rules", 2, nil, nil},
		{"the last of three that are the same is left out first", 1, repeated(rule(1, 3, 4), 3), []int{0}},
		{"not dead, but a later rule says the same", 1, []api.Rule{rule(1, 3, 5), rule(1, 0, 9)}, []int{1}},
		{"a later rule says the same of a part only", 1, []api.Rule{rule(1, 3, 5), rule(1, 0, 4)}, []int{0, 1}},
		{"a rule between says something else", 1, []api.Rule{rule(1, 3, 5), rule(2, 4, 6), rule(1, 0, 9)}, []int{0, 1, 2}},
		{"a rule between is dead", 1, []api.Rule{rule(1, 3, 5), rule(2, 4, 5), rule(1, 0, 9)}, []int{2}},
		{"either of two could be left out: the later one is", 1, []api.Rule{rule(1, 0, 6), rule(1, 4, 9), rule(1, 3, 6)}, []int{0, 1}},
		{"two halves that cover, after the whole", 1, []api.Rule{rule(1, 0, 10), rule(1, 0, 5), rule(1, 5, 10)}, []int{0}},
		{"two halves that cover, before the whole: the last rule goes first", 1, []api.Rule{rule(1, 0, 5), rule(1, 5, 10), rule(1, 0, 10)}, []int{0, 1}},
		{"a rule of the code 0 is not without code", 1, []api.Rule{rule(0, 0, 5)}, []int{0}},
	}
	for _, c := range cases {
		want := []api.Rule{}
		for _, i := range c.want {
			want = append(want, c.rules[i])
		}
		lean, e := tariff.Lean(c.k, c.rules)
		if e != api.OK || !equalTariffs(lean, want) {
			t.Errorf("%s: %v, error %d; want %v", c.name, lean, e, want)
		}
	}
}

func TestP2_6LeanOfRandom(t *testing.T) {
	many(300, 6, func(_ *rand.Rand, k int, rules []api.Rule) {
		if lean, want := mustLean(t, k, rules), slowLean(k, rules); !equalTariffs(lean, want) {
			t.Errorf("Lean of %v: %v; want %v", rules, lean, want)
		}
	})
}

func TestP2_7Clash(t *testing.T) {
	cases := []struct {
		name  string
		k     int
		rules []api.Rule
		i, j  int
		want  []int
	}{
		{"example 3", 2, two(), 0, 1, []int{3, 3}},
		{"example 3, the other way round", 2, two(), 1, 0, []int{3, 3}},
		{"a rule and itself", 2, two(), 1, 1, nil},
		{"the same code", 1, []api.Rule{rule(4, 0, 5), rule(4, 0, 5)}, 0, 1, nil},
		{"bands that touch", 1, []api.Rule{rule(1, 0, 5), rule(2, 5, 9)}, 0, 1, nil},
		{"bands apart", 1, []api.Rule{rule(1, 7, 9), rule(2, 0, 5)}, 0, 1, nil},
		{"one number", 1, []api.Rule{rule(1, 0, 5), rule(2, 4, 9)}, 0, 1, []int{4}},
		{"each is later in one mark", 3, []api.Rule{rule(1, 0, 9, 5, 9, 1, 9), rule(0, 4, 9, 0, 9, 1, 2)}, 0, 1, []int{4, 5, 1}},
		{"apart in the last mark only", 3, []api.Rule{rule(1, 0, 9, 5, 9, 1, 9), rule(0, 4, 9, 0, 9, 9, 10)}, 0, 1, nil},
		{"apart in the first mark only", 2, []api.Rule{rule(1, 0, 4, 5, 9), rule(0, 4, 9, 0, 9)}, 0, 1, nil},
		{"a rule before them does not matter", 1, []api.Rule{always(1, 5), rule(1, 0, 5), rule(2, 0, 9)}, 1, 2, []int{0}},
	}
	for _, c := range cases {
		got, e := tariff.Clash(c.k, c.rules, c.i, c.j)
		expectThing(t, c.name, got, e, c.want)
	}
}

func TestP2_7ClashOfRandom(t *testing.T) {
	many(500, 4, func(r *rand.Rand, k int, rules []api.Rule) {
		if len(rules) == 0 {
			return
		}
		i, j := r.IntN(len(rules)), r.IntN(len(rules))
		got, e := tariff.Clash(k, rules, i, j)
		expectThing(t, "Clash", got, e, slowClash(k, rules, i, j))
	})
}
