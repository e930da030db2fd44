package message_test

import (
	"fmt"
	"math"
	"math/rand/v2"
	"slices"
	"strings"
	"sync"
	"testing"
	"time"

	"cocket/api"
	"cocket/message"
)

// outcome is an error, and whether every other result was its zero value.
type outcome struct {
	e    api.Errno
	zero bool
	all  string // the results, to be compared
}

// schemaCalls makes a call of each function with a schema.
func schemaCalls(schema []api.Item, tags []string) map[string]outcome {
	all := map[string]outcome{}
	fits, e := message.Fits(schema, tags)
	all["Fits"] = outcome{e, !fits, fmt.Sprint(fits)}
	ways, e := message.Ways(schema, tags)
	all["Ways"] = outcome{e, ways == 0, fmt.Sprint(ways)}
	list, empty, e := message.First(schema)
	all["First"] = outcome{e, len(list) == 0 && !empty, fmt.Sprint(list, empty)}
	is, e := message.Clear(schema)
	all["Clear"] = outcome{e, !is, fmt.Sprint(is)}
	reads, n, e := message.Take(schema, tags)
	all["Take"] = outcome{e, len(reads) == 0 && n == 0, fmt.Sprint(reads, n)}
	list, fits, e = message.Next(schema, tags)
	all["Next"] = outcome{e, len(list) == 0 && !fits, fmt.Sprint(list, fits)}
	list, e = message.Shortest(schema)
	all["Shortest"] = outcome{e, len(list) == 0, fmt.Sprint(list)}
	list, e = message.Unclear(schema)
	all["Unclear"] = outcome{e, len(list) == 0, fmt.Sprint(list)}
	return all
}

// badSchemas are none.
func badSchemas() [][]api.Item {
	in := func(items ...api.Item) [][]api.Item {
		return [][]api.Item{items, {one("AB", 1, 1), group(0, 1, append([]api.Item{one("AB", 1, 1)}, items...)...)}}
	}
	var list [][]api.Item
	for _, tag := range []string{"A", "ABCD", "ab", "aB", "A1", "A ", " AB", "A\x00", "Ä", "ÄB", "\xff\xff", "AB\n", strings.Repeat("A", 1<<20)} {
		list = append(list, in(one(tag, 1, 1))...)
	}
	for _, n := range []int{-1, 10, math.MaxInt, math.MinInt, 1 << 32, 1<<32 + 1, -1 << 32} {
		list = append(list, in(one("AB", 0, n))...)
		list = append(list, in(one("AB", n, n))...)
		list = append(list, in(one("AB", n, 1))...)
		list = append(list, in(group(0, n, one("AB", 1, 1)))...)
		list = append(list, in(group(n, 1, one("AB", 1, 1)))...)
		list = append(list, in(group(1, 1, one("AB", 1, n)))...)
	}
	list = append(list, nil, []api.Item{}, make([]api.Item, 6), make([]api.Item, 1<<20), slices.Repeat([]api.Item{one("AB", 1, 1)}, 7), []api.Item{group(1, 1, make([]api.Item, 1<<20)...)})
	list = append(list, []api.Item{{Tag: "AB", Min: 1, Max: 1, Items: slices.Repeat([]api.Item{one("AB", 1, 1)}, 2)}}, []api.Item{{Tag: "AB", Min: 1, Max: 1, Items: make([]api.Item, 1<<20)}})
	list = append(list, circle(1), circle(2), circle(6), deepSchema(4), deepSchema(5), deepSchema(60000))
	return list
}

// circle is a list of groups that each consist of that same list.
func circle(count int) []api.Item {
	list := make([]api.Item, count)
	for i := range list {
		list[i] = group(1, 1)
		list[i].Items = list
	}
	return list
}

func deepSchema(deep int) []api.Item {
	list := []api.Item{one("AB", 1, 1)}
	for range deep - 1 {
		list = []api.Item{group(1, 1, list...)}
	}
	return list
}

func TestP7_2BadSchemas(t *testing.T) {
	for i, schema := range badSchemas() {
		for _, tags := range [][]string{nil, {"AB"}, {"x"}, times("AB", 61), times("", 1000)} {
			for name, got := range schemaCalls(schema, tags) {
				if got.e != api.ErrArg || !got.zero {
					t.Errorf("%s of bad schema %d and %d tags: error %d, zero %v; want ErrArg", name, i, len(tags), got.e, got.zero)
				}
			}
		}
	}
}

// Schemas that are right but for a single change, or nearly so.
func TestP7_2ChangedSchemas(t *testing.T) {
	r := rand.New(rand.NewPCG(7, 20))
	wrong := 0
	for i := range 4000 {
		schema := kinds()[i%3].schema(r)
		items := everyItem(schema)
		item := items[r.IntN(len(items))]
		switch r.IntN(5) {
		case 0:
			item.Min += r.IntN(5) - 2
		case 1:
			item.Max += r.IntN(9) - 4
		case 2:
			item.Items = append(slices.Clone(item.Items), one("AB", r.IntN(2), 1))
		case 3:
			item.Items = item.Items[:len(item.Items)/2]
		default:
			other := copied([]api.Item{*items[r.IntN(len(items))]})[0] // a copy, as it may have the item itself within it
			*item = group(0, 1, one("AB", 1, 1), other, other)
		}
		if !isSchema(schema) {
			wrong++
		}
		for name, got := range schemaCalls(schema, nil) {
			if (got.e == api.ErrArg) == isSchema(schema) || got.e == api.ErrArg && !got.zero {
				t.Fatalf("%s of %s: error %d, though it is a schema: %v", name, written(schema), got.e, isSchema(schema))
			}
		}
	}
	if wrong < 500 {
		t.Errorf("only %d were wrong", wrong)
	}
}

// With an error every other result is its zero value, but for the index of ErrForm.
func TestZeroWithErrors(t *testing.T) {
	r := rand.New(rand.NewPCG(7, 21))
	seen := map[string]int{}
	for i := range 1500 {
		k := kinds()[i%3]
		schema := k.schema(r)
		for name, got := range schemaCalls(schema, someTags(r, schema, k)) {
			if got.e == api.OK {
				continue
			}
			seen[fmt.Sprint(name, got.e)]++
			if !got.zero && got.e != api.ErrForm || got.e == api.ErrForm && !strings.HasPrefix(got.all, "[]") {
				t.Fatalf("%s of %s: error %d, and %s", name, brackets(schema), got.e, got.all)
			}
		}
	}
	for _, want := range []string{"Take" + fmt.Sprint(api.ErrState), "Take" + fmt.Sprint(api.ErrForm), "Next" + fmt.Sprint(api.ErrPlan), "Unclear" + fmt.Sprint(api.ErrPlan)} {
		if seen[want] == 0 {
			t.Errorf("no %s", want)
		}
	}
	if len(seen) > 5 { // these four, and perhaps ErrFull of Ways
		t.Errorf("other errors: %v", seen)
	}
}

// greatest are the schemas that make the most.
func greatest() [][]api.Item {
	list := [][]api.Item{}
	for _, least := range []int{0, 1, 9} {
		six := slices.Repeat([]api.Item{one("AB", least, 9)}, 6)
		six[5].Min = max(1, least)
		inner := group(least, 9, six...)
		last := group(max(1, least), 9, six[2:]...)
		list = append(list, []api.Item{group(least, 9, inner, inner, last)})
		other := copied([]api.Item{group(least, 9, inner, inner, last)})
		letters := "ABCDEFGHIJKLMNOPQRSTUVWXYZ"
		for i, item := range everyItem(other) {
			if item.Tag != "" {
				item.Tag = "X" + letters[i:i+1]
			}
		}
		list = append(list, other)
	}
	return list
}

func TestP1MostWork(t *testing.T) {
	for _, schema := range greatest() {
		for _, tags := range [][]string{nil, times("AB", 60), times("XD", 60), times("ZZ", 60), strings.Fields(strings.Repeat("XC XD XE XF XG XH ", 10))} {
			within(t, brackets(schema), 20*time.Second, func() {
				schemaCalls(schema, tags)
			})
		}
	}
	for _, text := range []string{strings.Repeat("?", 20000), strings.Repeat("AB'", 6666), "AB" + strings.Repeat("+", 19998), "AB" + strings.Repeat("+:", 9999), strings.Repeat("A", 20000), strings.Repeat("\n", 20000), strings.Repeat("'", 1<<24)} {
		within(t, "a text", 20*time.Second, func() {
			message.Parse(text)
		})
	}
}

// Whatever the bytes are, Parse returns, and of what Print makes a message, it makes it again.
func TestP1AnyText(t *testing.T) {
	r := rand.New(rand.NewPCG(7, 22))
	for i := range 40000 {
		text := make([]byte, r.IntN(12))
		for j := range text {
			text[j] = byte(r.IntN(256))
			if i%2 == 0 {
				text[j] = "AB+:'?\n"[r.IntN(7)]
			}
		}
		want, wantN, wantE := slowParse(string(text))
		if m, n, e := message.Parse(string(text)); !isSameMessage(m, want) || n != wantN || e != wantE {
			t.Fatalf("Parse of %q: %q, %d, error %d; want %q, %d, error %d", text, m, n, e, want, wantN, wantE)
		}
	}
}

func TestP1AnySchema(t *testing.T) {
	r := rand.New(rand.NewPCG(7, 23))
	numbers := []int{0, 0, 1, 1, 1, 2, 9, 10, -1, math.MaxInt, math.MinInt}
	tags := []string{"", "", "AB", "CD", "ABC", "a", "ABCD"}
	var random func(deep int) []api.Item
	random = func(deep int) []api.Item {
		list := make([]api.Item, r.IntN(4))
		for i := range list {
			list[i] = api.Item{Tag: tags[r.IntN(len(tags))], Min: numbers[r.IntN(len(numbers))], Max: numbers[r.IntN(len(numbers))]}
			if deep > 0 && (list[i].Tag == "" || r.IntN(5) == 0) {
				list[i].Items = random(deep - 1)
			}
		}
		return list
	}
	for range 20000 {
		schema := random(4)
		schemaCalls(schema, []string{tags[r.IntN(len(tags))], tags[r.IntN(len(tags))]})
	}
}

func TestP2OnlyArguments(t *testing.T) {
	r := rand.New(rand.NewPCG(7, 24))
	for i := range 200 {
		k := kinds()[i%3]
		schema := k.schema(r)
		tags := someTags(r, schema, k)
		want := schemaCalls(schema, tags)
		got := make([]map[string]outcome, 4)
		var all sync.WaitGroup
		for j := range got {
			all.Go(func() {
				got[j] = schemaCalls(copied(schema), slices.Clone(tags))
			})
		}
		all.Wait()
		for _, again := range got {
			for name := range want {
				if again[name] != want[name] {
					t.Fatalf("%s of %s and %v: %v, and then %v", name, brackets(schema), tags, want[name], again[name])
				}
			}
		}
	}
}

func TestArgumentsStay(t *testing.T) {
	r := rand.New(rand.NewPCG(7, 25))
	for i := range 200 {
		k := kinds()[i%3]
		schema := k.schema(r)
		tags := someTags(r, schema, k)
		before, tagsBefore := written(schema), slices.Clone(tags)
		schemaCalls(schema, tags)
		if written(schema) != before || !slices.Equal(tags, tagsBefore) {
			t.Fatalf("%s and %v were %s and %v", brackets(schema), tags, before, tagsBefore)
		}
		m := randomMessage(r, 3, 2, 2, 3)
		text := fmt.Sprintf("%#v", m)
		message.Print(m)
		if fmt.Sprintf("%#v", m) != text {
			t.Fatalf("%v was %s", m, text)
		}
	}
}

// Results are new memory: what is written into one changes neither another one nor the next.
func TestResultsAreNew(t *testing.T) {
	text := "AB+1:2+3'AB+1:2+3'"
	m, _, _ := message.Parse(text)
	other, _, _ := message.Parse(text)
	m[0].Elements[0][0] = "x"
	_ = append(m[0].Elements[0], "y")
	_ = append(m[0].Elements, []string{"z"})
	m[1].Elements[1] = append(m[1].Elements[1], "w")
	if again, _, _ := message.Parse(text); !isSameMessage(again, other) || m[1].Elements[0][0] != "1" || m[0].Elements[1][0] != "3" {
		t.Errorf("%v, %v, %v", m, other, again)
	}
	schema := []api.Item{group(0, 9, one("AB", 1, 2), one("CD", 0, 1)), one("EF", 0, 1), one("EF", 0, 1)}
	lists := func() [][]string {
		first, _, _ := message.First(schema)
		next, _, _ := message.Next(schema, []string{"AB"})
		short, _ := message.Shortest([]api.Item{group(2, 2, one("AB", 2, 2))})
		unclear, _ := message.Unclear(schema)
		return [][]string{first, next, short, unclear}
	}
	a, b := lists(), lists()
	for i := range a {
		for j := range a[i] {
			a[i][j] = "ZZ"
		}
		_ = append(a[i][:0], "ZZ", "ZZ", "ZZ")
	}
	if c := lists(); fmt.Sprint(b) != fmt.Sprint(c) {
		t.Errorf("%v, and then %v", b, c)
	}
	clear := []api.Item{group(0, 9, one("AB", 1, 1), one("CD", 0, 2))}
	tags := strings.Fields("AB CD AB AB CD CD")
	reads, _, _ := message.Take(clear, tags)
	again, _, _ := message.Take(clear, tags)
	for i := range reads {
		for j := range reads[i].Within {
			reads[i].Within[j].Segment = 99
		}
		reads[i].Within = append(reads[i].Within, leaf(9, 9, 9))
		reads[i].Turn = 99
	}
	if third, _, e := message.Take(clear, tags); !isSameReads(again, third) || len(third) != 3 || e != api.OK {
		t.Errorf("%v, and then %v (error %d)", again, third, e)
	}
}
