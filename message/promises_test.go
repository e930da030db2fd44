package message_test

import (
	"math/rand/v2"
	"reflect"
	"slices"
	"strings"
	"testing"

	"cocket/api"
	"cocket/message"
)

func TestP7_3Fits(t *testing.T) {
	schema := orders()
	twice := []api.Item{group(2, 3, one("AB", 1, 2), one("CD", 0, 1))}
	for _, c := range []struct {
		schema []api.Item
		tags   string
		want   bool
	}{
		{schema, "UNH LIN QTY LIN UNT", true}, {schema, "UNH UNT", true}, {schema, "UNH LIN QTY QTY UNT", true}, {schema, "UNH" + strings.Repeat(" LIN QTY QTY", 9) + " UNT", true},
		{schema, "", false}, {schema, "UNH", false}, {schema, "UNT", false}, {schema, "UNH QTY UNT", false}, {schema, "UNH LIN QTY QTY QTY UNT", false}, {schema, "UNH UNT UNT", false}, {schema, "UNH UNT UNH UNT", false},
		{schema, "UNH" + strings.Repeat(" LIN", 10) + " UNT", false}, {schema, "UNH LIN QTY", false}, {schema, "LIN QTY UNT", false}, {schema, "UNH XX UNT", false}, {schema, "UNT LIN UNH", false}, {schema, "UNH UNH UNT", false},
		{twice, "AB", false}, {twice, "AB AB", true}, {twice, "AB CD", false}, {twice, "AB CD AB", true}, {twice, "AB AB CD AB AB CD AB AB CD", true}, {twice, "AB AB AB CD", true}, {twice, "AB AB AB AB AB AB AB", false},
		{twice, "CD AB", false}, {twice, "AB CD CD AB", false}, {twice, "AB CD AB CD AB CD AB", false}, {twice, "", false},
		{[]api.Item{one("AB", 0, 1)}, "", true}, {[]api.Item{one("AB", 0, 1)}, "AB", true}, {[]api.Item{one("AB", 0, 1)}, "AB AB", false}, {[]api.Item{one("AB", 1, 1)}, "", false},
		{[]api.Item{one("AB", 3, 5)}, "AB AB", false}, {[]api.Item{one("AB", 3, 5)}, "AB AB AB", true}, {[]api.Item{one("AB", 3, 5)}, "AB AB AB AB AB", true}, {[]api.Item{one("AB", 3, 5)}, "AB AB AB AB AB AB", false},
		{[]api.Item{one("AB", 0, 1), one("AB", 0, 1)}, "AB AB", true}, {[]api.Item{one("AB", 0, 1), one("AB", 0, 1)}, "AB AB AB", false},
		{[]api.Item{one("AB", 0, 1)}, "ABC", false}, {[]api.Item{one("ABC", 0, 1)}, "AB", false},
	} {
		got, e := message.Fits(c.schema, strings.Fields(c.tags))
		if got != c.want || e != api.OK {
			t.Errorf("Fits of %s and %q: %v, error %d", brackets(c.schema), c.tags, got, e)
		}
	}
}

func TestP7_3Ways(t *testing.T) {
	two := []api.Item{one("LIN", 0, 1), one("LIN", 0, 1)}
	deep := []api.Item{group(2, 3, one("AB", 1, 2)), one("AB", 0, 1)}
	for _, c := range []struct {
		schema []api.Item
		tags   []string
		want   int
	}{
		{two, nil, 1}, {two, times("LIN", 1), 2}, {two, times("LIN", 2), 1}, {two, times("LIN", 3), 0}, {two, times("AB", 1), 0},
		{deep, nil, 0}, {deep, times("AB", 1), 0}, {deep, times("AB", 2), 1}, {deep, times("AB", 3), 4}, {deep, times("AB", 7), 1}, {deep, times("AB", 8), 0},
		{orders(), strings.Fields("UNH LIN QTY LIN UNT"), 1}, {orders(), strings.Fields("UNH LIN QTY LIN"), 0},
		{[]api.Item{one("AB", 0, 9)}, times("AB", 5), 1}, // the same item each time: the first five repetitions
		{[]api.Item{group(0, 9, one("AB", 1, 9))}, times("AB", 5), 16},
		{[]api.Item{one("AB", 0, 9), one("AB", 0, 9)}, times("AB", 9), 10},
		{[]api.Item{one("AB", 0, 9), one("CD", 0, 1), one("AB", 0, 9)}, strings.Fields("AB AB CD AB"), 1},
		{[]api.Item{group(0, 2, one("AB", 1, 1), one("CD", 0, 1)), one("CD", 0, 1)}, strings.Fields("AB CD"), 2},
		{[]api.Item{group(1, 1, group(1, 1, one("AB", 1, 1)))}, times("AB", 1), 1},
	} {
		if got, e := message.Ways(c.schema, c.tags); got != c.want || e != api.OK {
			t.Errorf("Ways of %s and %v: %d, error %d; want %d", brackets(c.schema), c.tags, got, e, c.want)
		}
	}
}

// In these schemas every tag is the same, so a polynomial counts the ways, far above MaxReadings too.
func TestP7_3ManyWays(t *testing.T) {
	above, below, nearly := 0, 0, 0
	six := slices.Repeat([]api.Item{one("AB", 1, 9)}, 6)
	schemas := [][]api.Item{
		slices.Repeat([]api.Item{one("AB", 0, 9)}, 6),
		slices.Repeat([]api.Item{one("AB", 0, 8)}, 6),
		{group(0, 9, group(0, 9, one("AB", 1, 9)), one("AB", 1, 1))},
		{group(0, 9, append([]api.Item{group(0, 9, six...)}, one("AB", 1, 9), one("AB", 0, 2))...), one("AB", 0, 9)},
	}
	r := rand.New(rand.NewPCG(7, 3))
	k := kind{tags: []string{"AB"}, items: 4, turns: 9, groups: 0.5}
	for range 30 {
		schemas = append(schemas, k.schema(r))
	}
	for _, schema := range schemas {
		counts := slowLengths(schema)
		for n := range 61 {
			want, wantE := 0, api.OK
			if n < len(counts) && counts[n].IsInt64() && counts[n].Int64() <= 1000000 {
				want = int(counts[n].Int64())
				below++
			} else if n < len(counts) {
				wantE = api.ErrFull
				above++
			}
			if want > 500000 {
				nearly++
			}
			if got, e := message.Ways(schema, times("AB", n)); got != want || e != wantE {
				t.Fatalf("Ways of %s and %d segments: %d, error %d; want %d, error %d", brackets(schema), n, got, e, want, wantE)
			}
			if fits, e := message.Fits(schema, times("AB", n)); fits != (want > 0 || wantE != api.OK) || e != api.OK {
				t.Fatalf("Fits of %s and %d segments: %v, error %d; there are %d ways", brackets(schema), n, fits, e, want)
			}
		}
	}
	if above < 100 || below < 100 || nearly == 0 {
		t.Errorf("%d counts above MaxReadings, %d others, %d of them nearly as great", above, below, nearly)
	}
}

// The ways of several groups are multiplied, exactly up to MaxReadings and a bit beyond.
func TestP7_3ExactLimit(t *testing.T) {
	// A repetition of the group with n of AB is made in n+1 ways, and the tags around it tell where it is.
	ten := func(most int) []api.Item {
		return []api.Item{group(0, most, one("CD", 1, 1), one("AB", 0, 9), one("AB", 0, 9), one("EF", 1, 1))}
	}
	tags := func(counts ...int) []string {
		var list []string
		for _, count := range counts {
			list = append(list, slices.Concat([]string{"CD"}, times("AB", count), []string{"EF"})...)
		}
		return list
	}
	for _, c := range []struct {
		counts []int
		want   int
		e      api.Errno
	}{
		{[]int{9, 9, 9}, 1000, api.OK}, {[]int{9, 9, 9, 9}, 10000, api.OK}, {[]int{9, 9, 9, 9, 9}, 100000, api.OK}, // 10^5
		{[]int{9, 9, 9, 8, 8}, 81000, api.OK}, {[]int{1, 1, 1, 1, 1, 1, 1}, 128, api.OK}, {[]int{4, 4, 4, 4, 4, 4, 4, 4}, 390625, api.OK},
		{[]int{9, 9, 4, 4, 4, 4, 4, 1}, 625000, api.OK},                                                         // 10^2 * 5^5 * 2
		{[]int{9, 4, 4, 4, 4, 4, 4, 4, 1}, 0, api.ErrFull}, {[]int{4, 4, 4, 4, 4, 4, 3, 3, 3}, 1000000, api.OK}, // 5^6 * 4^3
		{[]int{4, 4, 4, 4, 4, 4, 4, 3, 3}, 0, api.ErrFull}, {[]int{4, 4, 4, 4, 4, 5, 3, 3, 3}, 0, api.ErrFull}, {[]int{3, 3, 3, 3, 3, 3, 3, 3, 4}, 327680, api.OK},
	} {
		if len(tags(c.counts...)) > 60 {
			t.Fatalf("%d tags", len(tags(c.counts...)))
		}
		if got, e := message.Ways(ten(9), tags(c.counts...)); got != c.want || e != c.e {
			t.Errorf("Ways of %v: %d, error %d; want %d, error %d", c.counts, got, e, c.want, c.e)
		}
	}
}

// In small schemas all ways of all messages are made.
func TestP7_3to7_6Slowly(t *testing.T) {
	r := rand.New(rand.NewPCG(7, 36))
	clear, unclear, long := 0, 0, 0
	for done := 0; done < 700; {
		schema := small().schema(r)
		if slowCount(schema) > 1500 {
			continue
		}
		done++
		ways := slowWays(schema)
		best, found := slowUnclear(ways)
		checkUnclear(t, schema, best, found)
		if found {
			unclear++
			long += len(best) / 3
		} else {
			clear++
		}
		checkShortest(t, schema, ways)
		for range 25 {
			tags := grown(r, schema, false)
			for range r.IntN(3) {
				tags = changed(r, tags, small().tags)
			}
			checkTags(t, schema, ways, tags, !found)
		}
		checkTags(t, schema, ways, nil, !found)
	}
	if clear < 100 || unclear < 100 || long < 20 {
		t.Errorf("%d schemas were clear, %d not, %d of them only after a while", clear, unclear, long)
	}
}

func checkUnclear(t *testing.T, schema []api.Item, best []string, found bool) {
	t.Helper()
	isClear, e := message.Clear(schema)
	if isClear == found || e != api.OK {
		t.Fatalf("Clear of %s: %v, error %d; %v has two readings", brackets(schema), isClear, e, best)
	}
	tags, e := message.Unclear(schema)
	wantE := api.OK
	if !found {
		wantE = api.ErrPlan
	}
	if !slices.Equal(tags, best) || e != wantE {
		t.Fatalf("Unclear of %s: %v, error %d; want %v", brackets(schema), tags, e, best)
	}
}

func checkShortest(t *testing.T, schema []api.Item, ways []slowWay) {
	t.Helper()
	best := slices.MinFunc(ways, func(a, b slowWay) int { return compareLists(a.tags, b.tags) })
	if tags, e := message.Shortest(schema); !slices.Equal(tags, best.tags) || e != api.OK {
		t.Fatalf("Shortest of %s: %v, error %d; want %v", brackets(schema), tags, e, best.tags)
	}
}

func checkTags(t *testing.T, schema []api.Item, ways []slowWay, tags []string, isClear bool) {
	t.Helper()
	count := 0
	var reads []api.Read
	for _, way := range begins(ways, tags) {
		if len(way.tags) == len(tags) {
			count++
			reads = way.reads
		}
	}
	if got, e := message.Ways(schema, tags); got != count || e != api.OK {
		t.Fatalf("Ways of %s and %v: %d, error %d; want %d", brackets(schema), tags, got, e, count)
	}
	if got, e := message.Fits(schema, tags); got != (count > 0) || got != slowFits(schema, tags) || e != api.OK {
		t.Fatalf("Fits of %s and %v: %v, error %d; there are %d ways", brackets(schema), tags, got, e, count)
	}
	wantNext, wantFits, isBegin := slowNext(ways, tags)
	wantE := api.OK
	if !isBegin {
		wantE = api.ErrPlan
	}
	if next, fits, e := message.Next(schema, tags); !slices.Equal(next, wantNext) || fits != wantFits || e != wantE {
		t.Fatalf("Next of %s and %v: %v, %v, error %d; want %v, %v, error %d", brackets(schema), tags, next, fits, e, wantNext, wantFits, wantE)
	}
	if len(tags) == 0 {
		if next, fits, e := message.First(schema); !slices.Equal(next, wantNext) || fits != wantFits || e != api.OK {
			t.Fatalf("First of %s: %v, %v, error %d; want %v, %v", brackets(schema), next, fits, e, wantNext, wantFits)
		}
	}
	got, n, e := message.Take(schema, tags)
	switch {
	case !isClear:
		if len(got) > 0 || n != 0 || e != api.ErrState {
			t.Fatalf("Take of %s and %v: %v, %d, error %d; want ErrState", brackets(schema), tags, got, n, e)
		}
	case count > 0:
		if !isSameReads(got, reads) || n != len(tags) || e != api.OK {
			t.Fatalf("Take of %s and %v: %v, %d, error %d; want %v", brackets(schema), tags, got, n, e, reads)
		}
	default:
		at := len(tags)
		for len(begins(ways, tags[:at])) == 0 {
			at--
		}
		if len(got) > 0 || n != at || e != api.ErrForm {
			t.Fatalf("Take of %s and %v: %v, %d, error %d; want ErrForm of %d", brackets(schema), tags, got, n, e, at)
		}
	}
}

func TestP7_4First(t *testing.T) {
	for _, c := range []struct {
		schema []api.Item
		want   string
		empty  bool
	}{
		{orders(), "UNH", false},
		{[]api.Item{one("CD", 0, 1), one("AB", 0, 1)}, "AB CD", true},
		{[]api.Item{one("CD", 0, 1), one("AB", 1, 1), one("AA", 0, 1)}, "AB CD", false},
		{[]api.Item{one("CD", 0, 1), one("CD", 0, 1), one("CD", 0, 1)}, "CD", true},
		{[]api.Item{one("ABC", 0, 1), one("AB", 0, 1), one("ABA", 0, 1), one("B"+"A", 0, 1)}, "AB ABA ABC BA", true},
		{[]api.Item{group(0, 1, one("ZZ", 0, 1), one("YY", 1, 1)), group(0, 1, one("XX", 1, 1))}, "XX YY ZZ", true},
		{[]api.Item{group(0, 1, one("ZZ", 0, 1), one("YY", 1, 1)), group(1, 1, one("XX", 0, 1), one("WW", 1, 1)), one("VV", 0, 1)}, "WW XX YY ZZ", false},
		{[]api.Item{group(1, 1, group(0, 9, one("CD", 2, 3)), one("AB", 1, 1))}, "AB CD", false},
	} {
		list, empty, e := message.First(c.schema)
		if !slices.Equal(list, strings.Fields(c.want)) || empty != c.empty || e != api.OK {
			t.Errorf("First of %s: %v, %v, error %d", brackets(c.schema), list, empty, e)
		}
	}
}

func TestP7_4Next(t *testing.T) {
	twice := []api.Item{group(2, 3, one("AB", 1, 2), one("CD", 0, 1)), one("EF", 0, 1)}
	for _, c := range []struct {
		schema     []api.Item
		tags, want string
		fits       bool
	}{
		{orders(), "", "UNH", false}, {orders(), "UNH", "LIN UNT", false}, {orders(), "UNH LIN", "LIN QTY UNT", false}, {orders(), "UNH LIN QTY QTY", "LIN UNT", false}, {orders(), "UNH UNT", "", true},
		{orders(), "UNH" + strings.Repeat(" LIN", 9), "QTY UNT", false}, {orders(), "UNH" + strings.Repeat(" LIN", 8), "LIN QTY UNT", false},
		{twice, "AB", "AB CD", false}, {twice, "AB CD", "AB", false}, {twice, "AB AB", "AB CD EF", true}, {twice, "AB CD AB", "AB CD EF", true}, {twice, "AB CD AB CD AB CD", "EF", true}, {twice, "AB CD AB CD AB AB CD EF", "", true},
		{[]api.Item{one("AB", 2, 3)}, "AB", "AB", false}, {[]api.Item{one("AB", 2, 3)}, "AB AB", "AB", true}, {[]api.Item{one("AB", 2, 3)}, "AB AB AB", "", true},
		{[]api.Item{one("CD", 0, 1), one("CD", 0, 1), one("AB", 0, 1)}, "CD", "AB CD", true},
	} {
		list, fits, e := message.Next(c.schema, strings.Fields(c.tags))
		if !slices.Equal(list, strings.Fields(c.want)) || fits != c.fits || e != api.OK {
			t.Errorf("Next of %s and %q: %v, %v, error %d", brackets(c.schema), c.tags, list, fits, e)
		}
	}
	for _, tags := range []string{"LIN", "UNT", "UNH QTY", "UNH UNT UNT", "UNH LIN QTY QTY QTY", "UNH UNH", "XX", "UNH" + strings.Repeat(" LIN", 10), "UNH QTY LIN"} {
		if list, fits, e := message.Next(orders(), strings.Fields(tags)); len(list) > 0 || fits || e != api.ErrPlan {
			t.Errorf("Next of %q: %v, %v, error %d; want ErrPlan", tags, list, fits, e)
		}
	}
}

// Messages of more than MaxSegments segments count where the document says so.
func TestP7_4LongMessages(t *testing.T) {
	long := []api.Item{group(9, 9, one("AB", 9, 9)), one("CD", 1, 1)} // 82 segments
	if list, fits, e := message.Next(long, times("AB", 60)); !slices.Equal(list, []string{"AB"}) || fits || e != api.OK {
		t.Errorf("Next of 60: %v, %v, error %d", list, fits, e)
	}
	if list, fits, e := message.First(long); !slices.Equal(list, []string{"AB"}) || fits || e != api.OK {
		t.Errorf("First: %v, %v, error %d", list, fits, e)
	}
	if list, fits, e := message.Next(long, append(times("AB", 59), "CD")); len(list) > 0 || fits || e != api.ErrPlan {
		t.Errorf("Next of 59 and the last: %v, %v, error %d; want ErrPlan", list, fits, e)
	}
	if list, e := message.Shortest(long); !slices.Equal(list, append(times("AB", 81), "CD")) || e != api.OK {
		t.Errorf("Shortest: %v, error %d", list, e)
	}
	full := []api.Item{one("AB", 0, 9), group(1, 9, one("CD", 1, 6)), one("EF", 0, 1)}
	if list, fits, e := message.Next(full, append(times("AB", 9), times("CD", 51)...)); !slices.Equal(list, []string{"CD", "EF"}) || !fits || e != api.OK {
		t.Errorf("Next of 60: %v, %v, error %d", list, fits, e)
	}
	// What makes this one unclear comes only behind 82 segments.
	late := append(slices.Clone(long), one("EF", 0, 1), one("EF", 0, 1))
	if list, e := message.Unclear(late); !slices.Equal(list, append(times("AB", 81), "CD", "EF")) || e != api.OK {
		t.Errorf("Unclear: %v, error %d", list, e)
	}
	if is, e := message.Clear(late); is || e != api.OK {
		t.Errorf("Clear: %v, error %d", is, e)
	}
	if reads, n, e := message.Take(late, times("AB", 5)); len(reads) > 0 || n != 0 || e != api.ErrState {
		t.Errorf("Take: %v, %d, error %d; want ErrState", reads, n, e)
	}
	if reads, n, e := message.Take(long, times("AB", 60)); len(reads) > 0 || n != 60 || e != api.ErrForm {
		t.Errorf("Take: %v, %d, error %d; want ErrForm of 60", reads, n, e)
	}
}

func TestP7_4Shortest(t *testing.T) {
	for _, c := range []struct {
		schema []api.Item
		want   string
	}{
		{orders(), "UNH UNT"}, {[]api.Item{one("AB", 0, 9)}, ""}, {[]api.Item{one("ZZ", 1, 9), one("AB", 0, 9)}, "ZZ"}, {[]api.Item{one("CD", 2, 9), one("AB", 3, 3)}, "CD CD AB AB AB"},
		{[]api.Item{group(2, 3, one("AB", 1, 2), one("CD", 0, 1), group(2, 2, one("EF", 1, 1), one("GH", 2, 2)))}, "AB EF GH GH EF GH GH AB EF GH GH EF GH GH"},
		{[]api.Item{group(0, 3, one("AB", 5, 5)), one("CD", 1, 1)}, "CD"}, {[]api.Item{group(0, 3, one("AB", 5, 5))}, ""},
	} {
		if list, e := message.Shortest(c.schema); !slices.Equal(list, strings.Fields(c.want)) || e != api.OK {
			t.Errorf("Shortest of %s: %v, error %d", brackets(c.schema), list, e)
		}
	}
	deepest := []api.Item{group(9, 9, group(9, 9, slices.Repeat([]api.Item{one("AB", 9, 9)}, 6)...), group(9, 9, slices.Repeat([]api.Item{one("CD", 9, 9)}, 6)...), group(9, 9, slices.Repeat([]api.Item{one("EF", 9, 9)}, 4)...))}
	want := slices.Repeat(slices.Concat(times("AB", 486), times("CD", 486), times("EF", 324)), 9)
	if list, e := message.Shortest(deepest); !slices.Equal(list, want) || e != api.OK {
		t.Errorf("Shortest of %s: %d tags, error %d; want %d", brackets(deepest), len(list), e, len(want))
	}
}

func TestP7_5Unclear(t *testing.T) {
	for _, c := range []struct {
		schema []api.Item
		want   string // "" if it is clear
	}{
		{orders(), ""}, {[]api.Item{one("LIN", 0, 1), one("LIN", 0, 1)}, "LIN"}, {[]api.Item{one("LIN", 1, 1), one("LIN", 1, 1)}, ""}, {[]api.Item{one("LIN", 2, 2), one("LIN", 0, 1)}, ""},
		{[]api.Item{one("LIN", 1, 2), one("LIN", 0, 1)}, "LIN LIN"}, {[]api.Item{one("LIN", 0, 1), one("QTY", 0, 1), one("LIN", 0, 1)}, "LIN"}, {[]api.Item{one("LIN", 0, 1), one("QTY", 1, 1), one("LIN", 0, 1)}, ""},
		{[]api.Item{group(2, 3, one("AB", 1, 2)), one("AB", 0, 1)}, "AB AB"}, {[]api.Item{group(2, 3, one("AB", 2, 2)), one("AB", 0, 1)}, "AB AB AB AB AB"}, {[]api.Item{group(2, 2, one("AB", 2, 2)), one("AB", 0, 1)}, ""},
		{[]api.Item{group(1, 2, one("AB", 1, 2))}, "AB AB"}, {[]api.Item{group(1, 1, one("AB", 1, 2))}, ""}, {[]api.Item{group(1, 2, one("AB", 1, 1))}, ""}, {[]api.Item{group(0, 9, one("AB", 1, 1), one("CD", 0, 9))}, ""},
		{[]api.Item{group(0, 9, one("AB", 0, 1), one("CD", 1, 1)), one("AB", 0, 1)}, "AB"},
		{[]api.Item{group(1, 9, one("AB", 0, 1), one("CD", 1, 1)), one("AB", 0, 1)}, "CD AB"}, // shorter than AB CD AB
		{[]api.Item{one("CD", 0, 1), one("AB", 1, 1), one("EF", 0, 1), one("EF", 0, 1)}, "AB EF"},
		// Of several that are as short: the least by the tags before the last one, then by the last one.
		{[]api.Item{group(0, 1, one("CD", 1, 1), one("AA", 0, 1), one("AA", 0, 1)), group(0, 1, one("BB", 1, 1), one("ZZ", 0, 1), one("ZZ", 0, 1), one("YY", 0, 1), one("YY", 0, 1))}, "BB YY"},
		{[]api.Item{one("ZZ", 0, 1), one("ZZ", 0, 1), one("YY", 0, 1), one("YY", 0, 1)}, "YY"},
		{[]api.Item{one("ABC", 0, 1), one("ABC", 0, 1), one("AB", 0, 1), one("AB", 0, 1)}, "AB"},
		{[]api.Item{one("AB", 0, 1), one("ABC", 0, 1), one("ABC", 0, 1)}, "ABC"}, // AB ABC is longer
		// The fourth repetition may be of the group or of what follows.
		{[]api.Item{group(3, 9, one("LIN", 1, 1), one("QTY", 0, 2)), one("LIN", 0, 1)}, "LIN LIN LIN LIN"},
		// The message must end, but the end does not tell the readings apart before it comes.
		{[]api.Item{group(1, 2, one("AB", 1, 1), one("CD", 0, 1)), one("CD", 1, 1)}, "AB CD"},
		// These have a single way each, as the last tag says which it was, but it comes too late.
		{[]api.Item{group(0, 1, one("AB", 1, 1), one("CD", 1, 1)), group(0, 1, one("AB", 1, 1), one("EF", 1, 1))}, "AB"},
	} {
		want := strings.Fields(c.want)
		wantE := api.OK
		if len(want) == 0 {
			wantE = api.ErrPlan
		}
		if list, e := message.Unclear(c.schema); !slices.Equal(list, want) || e != wantE {
			t.Errorf("Unclear of %s: %v, error %d; want %v", brackets(c.schema), list, e, want)
		}
		if is, e := message.Clear(c.schema); is != (len(want) == 0) || e != api.OK {
			t.Errorf("Clear of %s: %v, error %d", brackets(c.schema), is, e)
		}
	}
}

func leaf(item, turn, segment int) api.Read {
	return api.Read{Item: item, Turn: turn, Segment: segment}
}

func branch(item, turn int, within ...api.Read) api.Read {
	return api.Read{Item: item, Turn: turn, Segment: -1, Within: within}
}

func TestP7_6Take(t *testing.T) {
	nested := []api.Item{one("AB", 0, 2), group(1, 2, group(1, 3, one("CD", 2, 2), one("EF", 0, 1)), one("GH", 1, 1)), one("AB", 0, 1)}
	for _, c := range []struct {
		schema []api.Item
		tags   string
		want   []api.Read
	}{
		{orders(), "UNH UNT", []api.Read{leaf(0, 0, 0), leaf(2, 0, 1)}},
		{orders(), "UNH LIN QTY LIN UNT", []api.Read{leaf(0, 0, 0), branch(1, 0, leaf(0, 0, 1), leaf(1, 0, 2)), branch(1, 1, leaf(0, 0, 3)), leaf(2, 0, 4)}},
		{orders(), "UNH LIN LIN QTY QTY UNT", []api.Read{leaf(0, 0, 0), branch(1, 0, leaf(0, 0, 1)), branch(1, 1, leaf(0, 0, 2), leaf(1, 0, 3), leaf(1, 1, 4)), leaf(2, 0, 5)}},
		{[]api.Item{one("AB", 0, 9)}, "", nil},
		{[]api.Item{one("AB", 0, 9)}, "AB AB AB", []api.Read{leaf(0, 0, 0), leaf(0, 1, 1), leaf(0, 2, 2)}},
		{[]api.Item{group(1, 1, group(1, 1, one("AB", 1, 1)))}, "AB", []api.Read{branch(0, 0, branch(0, 0, leaf(0, 0, 0)))}},
		{nested, "AB AB CD CD CD CD EF GH CD CD GH AB", []api.Read{
			leaf(0, 0, 0), leaf(0, 1, 1),
			branch(1, 0, branch(0, 0, leaf(0, 0, 2), leaf(0, 1, 3)), branch(0, 1, leaf(0, 0, 4), leaf(0, 1, 5), leaf(1, 0, 6)), leaf(1, 0, 7)),
			branch(1, 1, branch(0, 0, leaf(0, 0, 8), leaf(0, 1, 9)), leaf(1, 0, 10)),
			leaf(2, 0, 11)}},
		{nested, "CD CD GH", []api.Read{branch(1, 0, branch(0, 0, leaf(0, 0, 0), leaf(0, 1, 1)), leaf(1, 0, 2))}},
	} {
		tags := strings.Fields(c.tags)
		reads, n, e := message.Take(c.schema, tags)
		if !isSameReads(reads, c.want) || n != len(tags) || e != api.OK {
			t.Errorf("Take of %s and %q: %v, %d, error %d; want %v", brackets(c.schema), c.tags, reads, n, e, c.want)
		}
	}
}

func TestP7_6TakeErrors(t *testing.T) {
	for _, c := range []struct {
		tags string
		at   int
	}{
		{"", 0}, {"UNH", 1}, {"UNT", 0}, {"XX", 0}, {"LIN UNH", 0}, {"UNH QTY", 1}, {"UNH LIN QTY QTY QTY UNT", 4}, {"UNH UNT UNT", 2}, {"UNH LIN", 2}, {"UNH LIN QTY", 3}, {"UNH UNH UNT", 1},
		{"UNH UNT QTY XX LIN", 2}, {"UNH" + strings.Repeat(" LIN", 10), 10}, {"UNH" + strings.Repeat(" LIN", 9), 10},
	} {
		reads, n, e := message.Take(orders(), strings.Fields(c.tags))
		if len(reads) > 0 || n != c.at || e != api.ErrForm {
			t.Errorf("Take of %q: %v, %d, error %d; want ErrForm of %d", c.tags, reads, n, e, c.at)
		}
	}
	unclear := []api.Item{one("AB", 1, 1), one("LIN", 0, 1), one("LIN", 0, 1)}
	for _, tags := range []string{"", "AB", "AB LIN", "AB LIN LIN", "LIN", "XX"} {
		if reads, n, e := message.Take(unclear, strings.Fields(tags)); len(reads) > 0 || n != 0 || e != api.ErrState {
			t.Errorf("Take of %q: %v, %d, error %d; want ErrState", tags, reads, n, e)
		}
	}
}

// P7.2: the least and the greatest of each thing that a schema may have.
func TestP7_2Limits(t *testing.T) {
	twenty := append(slices.Repeat([]api.Item{group(0, 1, slices.Repeat([]api.Item{one("AB", 1, 1)}, 6)...)}, 2), slices.Repeat([]api.Item{one("AB", 1, 1)}, 3)...)
	twenty = append(twenty, group(0, 1, slices.Repeat([]api.Item{one("AB", 1, 1)}, 2)...)) // 7 + 7 + 3 + 3
	for _, c := range []struct {
		what   string
		schema []api.Item
		want   api.Errno
	}{
		{"one item", []api.Item{one("AB", 0, 1)}, api.OK},
		{"no items", []api.Item{}, api.ErrArg},
		{"six items", slices.Repeat([]api.Item{one("AB", 0, 1)}, 6), api.OK},
		{"seven items", slices.Repeat([]api.Item{one("AB", 0, 1)}, 7), api.ErrArg},
		{"six items in a group", []api.Item{group(0, 1, slices.Repeat([]api.Item{one("AB", 1, 1)}, 6)...)}, api.OK},
		{"seven items in a group", []api.Item{group(0, 1, slices.Repeat([]api.Item{one("AB", 1, 1)}, 7)...)}, api.ErrArg},
		{"three deep", []api.Item{group(0, 1, group(1, 1, one("AB", 1, 1)))}, api.OK},
		{"four deep", []api.Item{group(0, 1, group(1, 1, group(1, 1, one("AB", 1, 1))))}, api.ErrArg},
		{"four deep in the last item", []api.Item{one("AB", 1, 1), group(0, 1, one("AB", 1, 1), group(1, 1, one("AB", 1, 1), group(1, 1, one("AB", 1, 1))))}, api.ErrArg},
		{"twenty in all", twenty, api.OK},
		{"21 in all", append(slices.Clone(twenty[:5]), group(0, 1, slices.Repeat([]api.Item{one("AB", 1, 1)}, 3)...)), api.ErrArg},
		{"21 in all, of which five are groups", append(slices.Repeat([]api.Item{group(1, 1, slices.Repeat([]api.Item{one("AB", 1, 1)}, 3)...)}, 5), one("AB", 1, 1)), api.ErrArg},
		{"20 in all, of which five are groups", slices.Repeat([]api.Item{group(1, 1, slices.Repeat([]api.Item{one("AB", 1, 1)}, 3)...)}, 5), api.OK},
		{"Max 9", []api.Item{one("AB", 0, 9)}, api.OK},
		{"Min 9", []api.Item{one("AB", 9, 9)}, api.OK},
		{"Max 10", []api.Item{one("AB", 0, 10)}, api.ErrArg},
		{"Max 0", []api.Item{one("AB", 0, 0)}, api.ErrArg},
		{"Max below 0", []api.Item{one("AB", -1, -1)}, api.ErrArg},
		{"Min below 0", []api.Item{one("AB", -1, 1)}, api.ErrArg},
		{"Min above Max", []api.Item{one("AB", 3, 2)}, api.ErrArg},
		{"Max 10 of a group", []api.Item{group(0, 10, one("AB", 1, 1))}, api.ErrArg},
		{"Max 0 of a group", []api.Item{group(0, 0, one("AB", 1, 1))}, api.ErrArg},
		{"Min above Max of a group", []api.Item{group(2, 1, one("AB", 1, 1))}, api.ErrArg},
		{"Min below 0 in a group", []api.Item{group(1, 1, one("AB", 1, 1), one("AB", -1, 1))}, api.ErrArg},
		{"a group that may be nothing", []api.Item{group(1, 1, one("AB", 0, 1))}, api.ErrArg},
		{"a group that may be nothing, of a group that may not", []api.Item{group(1, 1, group(0, 1, one("AB", 1, 1)))}, api.ErrArg},
		{"a group of a group that may be nothing", []api.Item{group(1, 1, group(1, 1, one("AB", 0, 1)))}, api.ErrArg},
		{"a group of which the last may not be nothing", []api.Item{group(1, 1, one("AB", 0, 1), one("CD", 0, 1), one("EF", 1, 1))}, api.OK},
		{"neither tag nor items", []api.Item{{Min: 1, Max: 1}}, api.ErrArg},
		{"no items in a group", []api.Item{{Min: 1, Max: 1, Items: []api.Item{}}}, api.ErrArg},
		{"items that are none in a segment", []api.Item{{Tag: "AB", Min: 1, Max: 1, Items: []api.Item{}}}, api.OK},
		{"both tag and items", []api.Item{{Tag: "AB", Min: 1, Max: 1, Items: []api.Item{one("CD", 1, 1)}}}, api.ErrArg},
		{"a tag that is none and items", []api.Item{{Tag: "ABCD", Min: 1, Max: 1, Items: []api.Item{one("CD", 1, 1)}}}, api.ErrArg},
		{"a tag of one letter", []api.Item{one("A", 1, 1)}, api.ErrArg},
		{"a tag of four letters", []api.Item{one("ABCD", 1, 1)}, api.ErrArg},
		{"a tag of lowercase letters", []api.Item{one("ab", 1, 1)}, api.ErrArg},
		{"a tag of other bytes", []api.Item{one("A[", 1, 1)}, api.ErrArg},
		{"a tag of a digit", []api.Item{one("A1", 1, 1)}, api.ErrArg},
		{"a tag of a letter that is not ASCII", []api.Item{one("Ä", 1, 1)}, api.ErrArg},
		{"a tag that is none in a group", []api.Item{group(1, 1, one("AB", 1, 1), one("A@", 1, 1))}, api.ErrArg},
		{"one wrong item behind right ones", []api.Item{one("AB", 1, 1), one("AB", 1, 1), one("AB", 1, 10)}, api.ErrArg},
	} {
		if (c.want == api.OK) != isSchema(c.schema) && !strings.Contains(c.what, "tag") {
			t.Errorf("%s: the test itself is wrong", c.what)
		}
		for name, got := range schemaCalls(c.schema, nil) {
			if (got.e == api.ErrArg) != (c.want == api.ErrArg) {
				t.Errorf("%s, %s: error %d; want %d", c.what, name, got.e, c.want)
			}
		}
	}
}

func TestP7_2ErrorsInOrder(t *testing.T) {
	bad := []api.Item{one("AB", 0, 10)}
	good := []api.Item{one("AB", 0, 9), group(0, 9, one("CD", 1, 9))}
	for _, c := range []struct {
		what   string
		schema []api.Item
		tags   []string
		want   api.Errno
	}{
		{"a bad schema and too many tags", bad, times("AB", 61), api.ErrArg},
		{"a bad schema and a bad tag", bad, []string{"x"}, api.ErrArg},
		{"too many tags", good, times("AB", 61), api.ErrLimit},
		{"too many bad tags", good, times("x", 61), api.ErrLimit},
		{"very many tags", good, make([]string, 1<<20), api.ErrLimit},
		{"a bad tag", good, []string{"x"}, api.ErrArg},
		{"an empty tag", good, []string{""}, api.ErrArg},
		{"a bad tag behind good ones", good, []string{"AB", "AB", "ABCD"}, api.ErrArg},
		{"a bad tag behind one that does not fit", good, []string{"ZZ", "lin"}, api.ErrArg},
		{"a bad tag at the end of 60", good, append(times("AB", 59), "A "), api.ErrArg},
		{"a very long tag", good, []string{strings.Repeat("A", 1<<20)}, api.ErrArg},
		{"a bad tag and an unclear schema", []api.Item{one("AB", 0, 1), one("AB", 0, 1)}, []string{"AB", "a"}, api.ErrArg},
		{"too many tags and an unclear schema", []api.Item{one("AB", 0, 1), one("AB", 0, 1)}, times("AB", 61), api.ErrLimit},
	} {
		for name, got := range schemaCalls(c.schema, c.tags) {
			if name == "First" || name == "Clear" || name == "Shortest" || name == "Unclear" {
				continue
			}
			if got.e != c.want || !got.zero {
				t.Errorf("%s of %s: error %d, zero %v; want %d", name, c.what, got.e, got.zero, c.want)
			}
		}
	}
	// 60 tags are not too many.
	sixty := append(times("AB", 9), times("CD", 51)...)
	if fits, e := message.Fits(good, sixty); !fits || e != api.OK {
		t.Errorf("Fits of 60: %v, error %d", fits, e)
	}
	// Tags that no item has are tags all the same.
	if fits, e := message.Fits(good, []string{"ZZ"}); fits || e != api.OK {
		t.Errorf("Fits of another tag: %v, error %d", fits, e)
	}
}

func TestExamples(t *testing.T) {
	m, n, e := message.Parse("UNH+1+CUSDEC:D:96B'BGM+?+5'")
	want := []api.Segment{{Tag: "UNH", Elements: [][]string{{"1"}, {"CUSDEC", "D", "96B"}}}, {Tag: "BGM", Elements: [][]string{{"+5"}}}}
	if !reflect.DeepEqual(m, want) || n != 0 || e != api.OK {
		t.Errorf("Parse: %q, %d, error %d", m, n, e)
	}
	if fits, e := message.Fits(orders(), strings.Fields("UNH LIN QTY LIN UNT")); !fits || e != api.OK {
		t.Errorf("Fits: %v, error %d", fits, e)
	}
	if next, fits, e := message.Next(orders(), []string{"UNH"}); !slices.Equal(next, []string{"LIN", "UNT"}) || fits || e != api.OK {
		t.Errorf("Next: %v, %v, error %d", next, fits, e)
	}
	if tags, e := message.Unclear([]api.Item{one("LIN", 0, 1), one("LIN", 0, 1)}); !slices.Equal(tags, []string{"LIN"}) || e != api.OK {
		t.Errorf("Unclear: %v, error %d", tags, e)
	}
}
