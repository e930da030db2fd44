package message_test

import (
	"math/rand/v2"
	"slices"
	"testing"

	"cocket/api"
	"cocket/message"
)

// kinds are what random schemas are like in these tests.
func kinds() []kind {
	return []kind{small(), middle(), large()}
}

// someTags makes a message of a schema, or something like it, of at most 60 tags.
func someTags(r *rand.Rand, schema []api.Item, k kind) []string {
	tags := grown(r, schema, r.IntN(3) > 0)
	for range max(0, r.IntN(6)-3) {
		tags = changed(r, tags, k.tags)
	}
	return tags[:min(len(tags), 60)]
}

func TestP7_8Reading(t *testing.T) {
	r := rand.New(rand.NewPCG(7, 80))
	fitting, others := 0, 0
	for i := range 600 {
		k := kinds()[i%3]
		schema := k.clearSchema(t, r)
		for range 10 {
			tags := someTags(r, schema, k)
			fits, e := message.Fits(schema, tags)
			wantsOK(t, "Fits", schema, e)
			reads, n, e := message.Take(schema, tags)
			if fits != (e == api.OK) || fits != slowFits(schema, tags) {
				t.Fatalf("Take of %s and %v: error %d; Fits says %v", brackets(schema), tags, e, fits)
			}
			if fits {
				fitting++
				if length, ok := isReading(schema, reads, tags, 0); !ok || length != len(tags) || n != len(tags) {
					t.Fatalf("Take of %s and %v: %v, %d", brackets(schema), tags, reads, n)
				}
			} else {
				others++
				checkFirstWrong(t, schema, tags, n, e)
			}
		}
	}
	if fitting < 1000 || others < 1000 {
		t.Errorf("%d lists fitted, %d did not", fitting, others)
	}
}

// checkFirstWrong holds the index that Take returns against Next.
func checkFirstWrong(t *testing.T, schema []api.Item, tags []string, n int, e api.Errno) {
	t.Helper()
	if e != api.ErrForm || n < 0 || n > len(tags) {
		t.Fatalf("Take of %s and %v: %d, error %d", brackets(schema), tags, n, e)
	}
	next, fits, e := message.Next(schema, tags[:n])
	wantsOK(t, "Next", schema, e)
	if n == len(tags) && fits || n < len(tags) && slices.Contains(next, tags[n]) {
		t.Fatalf("Take of %s and %v: ErrForm of %d, where %v and the end (%v) can come", brackets(schema), tags, n, next, fits)
	}
}

func TestP7_8Ways(t *testing.T) {
	r := rand.New(rand.NewPCG(7, 81))
	for i := range 450 {
		k := kinds()[i%3]
		schema := k.schema(r)
		for range 8 {
			tags := someTags(r, schema, k)
			fits, e := message.Fits(schema, tags)
			wantsOK(t, "Fits", schema, e)
			ways, e := message.Ways(schema, tags)
			if fits != (ways > 0 || e == api.ErrFull) || e != api.OK && e != api.ErrFull || ways > 1000000 || fits != slowFits(schema, tags) {
				t.Fatalf("Ways of %s and %v: %d, error %d; Fits says %v", brackets(schema), tags, ways, e, fits)
			}
		}
	}
}

func TestP7_9Clear(t *testing.T) {
	r := rand.New(rand.NewPCG(7, 90))
	for i := range 900 {
		k := kinds()[i%3]
		schema := k.clearSchema(t, r)
		if tags, e := message.Unclear(schema); len(tags) > 0 || e != api.ErrPlan {
			t.Fatalf("Unclear of %s: %v, error %d; want ErrPlan", brackets(schema), tags, e)
		}
		for range 8 {
			tags := someTags(r, schema, k)
			if ways, e := message.Ways(schema, tags); ways > 1 || e != api.OK {
				t.Fatalf("Ways of %s and %v: %d, error %d", brackets(schema), tags, ways, e)
			}
		}
	}
}

// What two ways of the same message say shows that a schema is unclear.
func TestP7_9NotClear(t *testing.T) {
	r := rand.New(rand.NewPCG(7, 91))
	several := 0
	for i := range 1500 {
		k := kinds()[i%3]
		schema := k.schema(r)
		tags := someTags(r, schema, k)
		ways, e := message.Ways(schema, tags)
		if ways < 2 && e == api.OK {
			continue
		}
		several++
		list, e := message.Unclear(schema)
		if e != api.OK || len(list) == 0 || compareLists(list, tags) > 0 {
			t.Fatalf("Unclear of %s: %v, error %d, though %v has %d ways", brackets(schema), list, e, tags, ways)
		}
	}
	if several < 100 {
		t.Errorf("only %d lists had several ways", several)
	}
}

// Behind what Unclear returns, without its last tag, there is one reading only; with it there are two. The readings of every beginning are counted.
func TestP7_9Readings(t *testing.T) {
	r := rand.New(rand.NewPCG(7, 92))
	for done := 0; done < 500; {
		schema := small().schema(r)
		list, e := message.Unclear(schema)
		if e != api.OK || slowCount(schema) > 1500 {
			continue
		}
		done++
		ways := slowWays(schema)
		if slowReadings(ways, list) < 2 {
			t.Fatalf("Unclear of %s: %v, which has %d readings", brackets(schema), list, slowReadings(ways, list))
		}
		for n := range list {
			if slowReadings(ways, list[:n]) != 1 {
				t.Fatalf("Unclear of %s: %v, though %v has %d readings", brackets(schema), list, list[:n], slowReadings(ways, list[:n]))
			}
		}
	}
}

func TestP7_10Next(t *testing.T) {
	r := rand.New(rand.NewPCG(7, 100))
	for i := range 300 {
		k := kinds()[i%3]
		schema := k.schema(r)
		for range 6 {
			tags := someTags(r, schema, k)
			tags = tags[:r.IntN(min(len(tags), 59)+1)]
			next, fits, e := message.Next(schema, tags)
			if e == api.ErrPlan {
				continue
			}
			wantsOK(t, "Next", schema, e)
			if !slices.IsSorted(next) || len(slices.Compact(slices.Clone(next))) != len(next) {
				t.Fatalf("Next of %s and %v: %v is not ascending", brackets(schema), tags, next)
			}
			if is, e := message.Fits(schema, tags); is != fits || e != api.OK {
				t.Fatalf("Next of %s and %v: %v; Fits says %v, error %d", brackets(schema), tags, fits, is, e)
			}
			for _, tag := range append([]string{"XX", "ZZZ"}, k.tags...) {
				_, _, e := message.Next(schema, append(slices.Clone(tags), tag))
				if slices.Contains(next, tag) != (e == api.OK) || e != api.OK && e != api.ErrPlan {
					t.Fatalf("Next of %s and %v: %v; with %s behind them error %d", brackets(schema), tags, next, tag, e)
				}
			}
		}
	}
}

// Every beginning of a message is a beginning: the next tag of it is in Next.
func TestP7_10Beginnings(t *testing.T) {
	r := rand.New(rand.NewPCG(7, 101))
	for i := range 300 {
		schema := kinds()[i%3].schema(r)
		tags := grown(r, schema, i%2 == 0)
		for n := range min(len(tags), 61) {
			next, _, e := message.Next(schema, tags[:n])
			if e != api.OK || !slices.Contains(next, tags[n]) {
				t.Fatalf("Next of %s and %v: %v, error %d; want %s in it", brackets(schema), tags[:n], next, e, tags[n])
			}
		}
		if len(tags) <= 60 {
			if fits, e := message.Fits(schema, tags); !fits || e != api.OK {
				t.Fatalf("Fits of %s and %v: %v, error %d", brackets(schema), tags, fits, e)
			}
		}
	}
}

func TestP7_10First(t *testing.T) {
	r := rand.New(rand.NewPCG(7, 102))
	for i := range 1500 {
		schema := kinds()[i%3].schema(r)
		first, empty, e := message.First(schema)
		wantsOK(t, "First", schema, e)
		for _, none := range [][]string{nil, {}} {
			if next, fits, e := message.Next(schema, none); !slices.Equal(first, next) || empty != fits || e != api.OK {
				t.Fatalf("First of %s: %v, %v; Next of nothing: %v, %v, error %d", brackets(schema), first, empty, next, fits, e)
			}
		}
		tags, e := message.Shortest(schema)
		wantsOK(t, "Shortest", schema, e)
		if empty != (len(tags) == 0) {
			t.Fatalf("First of %s: %v; the shortest message is %v", brackets(schema), empty, tags)
		}
	}
}

func TestP7_10Shortest(t *testing.T) {
	r := rand.New(rand.NewPCG(7, 103))
	for i := range 600 {
		k := kinds()[i%3]
		schema := k.schema(r)
		tags, e := message.Shortest(schema)
		wantsOK(t, "Shortest", schema, e)
		if len(tags) > 60 {
			continue
		}
		if fits, e := message.Fits(schema, tags); !fits || e != api.OK {
			t.Fatalf("Fits of %s and its Shortest %v: %v, error %d", brackets(schema), tags, fits, e)
		}
		for range 10 {
			shorter := someTags(r, schema, k)
			fits, e := message.Fits(schema, shorter)
			wantsOK(t, "Fits", schema, e)
			if fits && compareLists(shorter, tags) < 0 {
				t.Fatalf("Shortest of %s: %v, but %v fits too", brackets(schema), tags, shorter)
			}
		}
		if len(tags) > 0 { // and with one tag less nothing fits
			at := r.IntN(len(tags))
			if fits, e := message.Fits(schema, slices.Delete(slices.Clone(tags), at, at+1)); fits || e != api.OK {
				t.Fatalf("Shortest of %s: %v, but it fits without the tag %d too (error %d)", brackets(schema), tags, at, e)
			}
		}
	}
}

func TestP7_11LessAndMore(t *testing.T) {
	r := rand.New(rand.NewPCG(7, 110))
	changes := 0
	for i := range 1500 {
		schema := kinds()[i%3].schema(r)
		tags := grown(r, schema, true)
		if len(tags) > 60 {
			continue
		}
		freer := copied(schema)
		for _, item := range everyItem(freer) {
			old := *item
			switch r.IntN(4) {
			case 0:
				item.Min = r.IntN(item.Min + 1)
			case 1:
				item.Max += r.IntN(10 - item.Max)
			}
			if !isSchema(freer) {
				*item = old
			} else if item.Min != old.Min || item.Max != old.Max {
				changes++
			}
		}
		fits, e := message.Fits(schema, tags)
		freely, e2 := message.Fits(freer, tags)
		if !fits || !freely || e != api.OK || e2 != api.OK {
			t.Fatalf("%v: %v by %s, %v by %s (errors %d, %d)", tags, fits, brackets(schema), freely, brackets(freer), e, e2)
		}
	}
	if changes < 500 {
		t.Errorf("only %d items were changed", changes)
	}
}

func TestP7_11Group(t *testing.T) {
	r := rand.New(rand.NewPCG(7, 111))
	groups := 0
	for i := 0; groups < 700; i++ {
		k := kinds()[i%3]
		schema := k.schema(r)
		whole := []api.Item{group(1, 1, schema...)}
		if !isSchema(whole) {
			continue
		}
		groups++
		checkSame(t, schema, whole)
		for range 6 {
			tags := someTags(r, schema, k)
			a, e := message.Ways(schema, tags)
			b, e2 := message.Ways(whole, tags)
			if a != b || e != e2 {
				t.Fatalf("Ways of %s and %v: %d, error %d; as a group %d, error %d", brackets(schema), tags, a, e, b, e2)
			}
			next, fits, e := message.Next(schema, tags)
			next2, fits2, e2 := message.Next(whole, tags)
			if !slices.Equal(next, next2) || fits != fits2 || e != e2 {
				t.Fatalf("Next of %s and %v: %v, %v, error %d; as a group %v, %v, error %d", brackets(schema), tags, next, fits, e, next2, fits2, e2)
			}
			reads, n, e := message.Take(schema, tags)
			reads2, n2, e2 := message.Take(whole, tags)
			if n != n2 || e != e2 || e == api.OK && (len(reads2) != 1 || !isSameReads(reads2, []api.Read{{Segment: -1, Within: reads}})) {
				t.Fatalf("Take of %s and %v: %v, %d, error %d; as a group %v, %d, error %d", brackets(schema), tags, reads, n, e, reads2, n2, e2)
			}
		}
	}
}

// checkSame holds two schemas with the same messages against each other.
func checkSame(t *testing.T, a, b []api.Item) {
	t.Helper()
	first, empty, e := message.First(a)
	first2, empty2, e2 := message.First(b)
	if !slices.Equal(first, first2) || empty != empty2 || e != e2 {
		t.Fatalf("First of %s: %v, %v, error %d; of %s: %v, %v, error %d", brackets(a), first, empty, e, brackets(b), first2, empty2, e2)
	}
	short, e := message.Shortest(a)
	short2, e2 := message.Shortest(b)
	if !slices.Equal(short, short2) || e != e2 {
		t.Fatalf("Shortest of %s: %v, error %d; of %s: %v, error %d", brackets(a), short, e, brackets(b), short2, e2)
	}
	two, e := message.Unclear(a)
	two2, e2 := message.Unclear(b)
	if !slices.Equal(two, two2) || e != e2 {
		t.Fatalf("Unclear of %s: %v, error %d; of %s: %v, error %d", brackets(a), two, e, brackets(b), two2, e2)
	}
}
