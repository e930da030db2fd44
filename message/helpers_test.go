package message_test

import (
	"fmt"
	"math/rand/v2"
	"slices"
	"strings"
	"testing"
	"time"

	"cocket/api"
	"cocket/message"
)

// one is the item of a segment.
func one(tag string, least, most int) api.Item {
	return api.Item{Tag: tag, Min: least, Max: most}
}

func group(least, most int, items ...api.Item) api.Item {
	return api.Item{Min: least, Max: most, Items: items}
}

// times is the same tag so often.
func times(tag string, count int) []string {
	return slices.Repeat([]string{tag}, count)
}

// orders is the schema of the chapter's example.
func orders() []api.Item {
	return []api.Item{one("UNH", 1, 1), group(0, 9, one("LIN", 1, 1), one("QTY", 0, 2)), one("UNT", 1, 1)}
}

// brackets writes a schema: A{0,2} (B{1,1}){0,9}.
func brackets(schema []api.Item) string {
	var list []string
	for _, item := range schema {
		text := item.Tag
		if item.Tag == "" {
			text = "(" + brackets(item.Items) + ")"
		}
		list = append(list, fmt.Sprintf("%s{%d,%d}", text, item.Min, item.Max))
	}
	return strings.Join(list, " ")
}

// written is all of a schema, so that two of them can be told apart.
func written(schema []api.Item) string {
	return fmt.Sprintf("%#v", schema)
}

// copied is the same schema in other memory.
func copied(schema []api.Item) []api.Item {
	list := slices.Clone(schema)
	for i := range list {
		list[i].Items = copied(list[i].Items)
	}
	return list
}

// everyItem returns pointers to all items of a schema.
func everyItem(schema []api.Item) []*api.Item {
	var list []*api.Item
	for i := range schema {
		list = append(list, &schema[i])
		list = append(list, everyItem(schema[i].Items)...)
	}
	return list
}

func depth(items []api.Item) int {
	deepest := 0
	for _, item := range items {
		deepest = max(deepest, 1+depth(item.Items))
	}
	return deepest
}

// isSchema says it in the chapter's words.
func isSchema(schema []api.Item) bool {
	if len(everyItem(schema)) > 20 || depth(schema) > 3 {
		return false
	}
	lists := [][]api.Item{schema}
	for _, item := range everyItem(schema) {
		if item.Tag == "" {
			lists = append(lists, item.Items)
			if !slices.ContainsFunc(item.Items, func(within api.Item) bool { return within.Min >= 1 }) {
				return false
			}
		} else if len(item.Items) > 0 {
			return false
		}
		if item.Min < 0 || item.Min > item.Max || item.Max < 1 || item.Max > 9 {
			return false
		}
	}
	return !slices.ContainsFunc(lists, func(list []api.Item) bool { return len(list) < 1 || len(list) > 6 })
}

// kind says what random schemas are like.
type kind struct {
	tags         []string
	items, turns int // the most items in a list, and the greatest Max
	groups       float64
}

func small() kind {
	return kind{tags: []string{"AB", "CD", "ABC"}, items: 3, turns: 2, groups: 0.3}
}

func middle() kind {
	return kind{tags: []string{"LIN", "QTY", "PRI", "AB"}, items: 4, turns: 4, groups: 0.4}
}

func large() kind {
	return kind{tags: []string{"AA", "BB", "CC", "DD", "EE", "FF", "GG", "HH", "II", "JJ", "KK", "LL", "MM", "NN"}, items: 6, turns: 9, groups: 0.4}
}

func (k kind) item(r *rand.Rand, deep int) api.Item {
	most := 1 + r.IntN(k.turns)
	least := r.IntN(most + 1)
	if r.IntN(3) == 0 {
		least = min(1, least)
	}
	if deep == 1 || r.Float64() > k.groups {
		return one(k.tags[r.IntN(len(k.tags))], least, most)
	}
	within := k.list(r, deep-1)
	must := &within[r.IntN(len(within))]
	must.Min = max(must.Min, 1)
	return group(least, most, within...)
}

func (k kind) list(r *rand.Rand, deep int) []api.Item {
	list := make([]api.Item, 1+r.IntN(k.items))
	for i := range list {
		list[i] = k.item(r, deep)
	}
	return list
}

// schema makes a random one.
func (k kind) schema(r *rand.Rand) []api.Item {
	for {
		if schema := k.list(r, 1+r.IntN(3)); isSchema(schema) {
			return schema
		}
	}
}

// clearSchema makes a random one that Clear says is clear.
func (k kind) clearSchema(t *testing.T, r *rand.Rand) []api.Item {
	for {
		schema := k.schema(r)
		is, e := message.Clear(schema)
		if e != api.OK {
			t.Fatalf("Clear of %s: error %d", brackets(schema), e)
		}
		if is {
			return schema
		}
	}
}

// grown makes a random message of a schema, with few repetitions if it is thrifty.
func grown(r *rand.Rand, items []api.Item, thrifty bool) []string {
	var tags []string
	for _, item := range items {
		count := item.Min + r.IntN(item.Max-item.Min+1)
		if thrifty {
			count = min(count, item.Min+r.IntN(2))
		}
		for range count {
			if item.Tag != "" {
				tags = append(tags, item.Tag)
			} else {
				tags = append(tags, grown(r, item.Items, thrifty)...)
			}
		}
	}
	return tags
}

// changed makes a list of tags a bit different.
func changed(r *rand.Rand, tags, all []string) []string {
	list := slices.Clone(tags)
	at := r.IntN(len(list) + 1)
	tag := all[r.IntN(len(all))]
	switch r.IntN(4) {
	case 0:
		return list[:at]
	case 1:
		return slices.Insert(list, at, tag)
	case 2:
		if at < len(list) {
			return slices.Delete(list, at, at+1)
		}
	default:
		if at < len(list) {
			list[at] = tag
		}
	}
	return list
}

// randomText makes a text of at most so many of these bytes.
func randomText(r *rand.Rand, letters string, most int) string {
	text := make([]byte, r.IntN(most+1))
	for i := range text {
		text[i] = letters[r.IntN(len(letters))]
	}
	return string(text)
}

// randomMessage makes a message with at most so many of each thing.
func randomMessage(r *rand.Rand, segments, elements, pieces, piece int) []api.Segment {
	letters := "ABCxyz019 +:'?+:'?~!-"
	m := make([]api.Segment, r.IntN(segments+1))
	for i := range m {
		m[i].Tag = []string{"LIN", "QTY", "AB", "ZZ", "UNH"}[r.IntN(5)]
		for range r.IntN(elements + 1) {
			parts := make([]string, 1+r.IntN(pieces))
			for j := range parts {
				parts[j] = randomText(r, letters, piece)
			}
			m[i].Elements = append(m[i].Elements, parts)
		}
	}
	return m
}

func isSameMessage(a, b []api.Segment) bool {
	return slices.EqualFunc(a, b, func(a, b api.Segment) bool {
		return a.Tag == b.Tag && slices.EqualFunc(a.Elements, b.Elements, slices.Equal[[]string])
	})
}

func isSameReads(a, b []api.Read) bool {
	return slices.EqualFunc(a, b, func(a, b api.Read) bool {
		return a.Item == b.Item && a.Turn == b.Turn && a.Segment == b.Segment && isSameReads(a.Within, b.Within)
	})
}

// wantsOK fails if there was an error.
func wantsOK(t *testing.T, what string, schema []api.Item, e api.Errno) {
	t.Helper()
	if e != api.OK {
		t.Fatalf("%s of %s: error %d", what, brackets(schema), e)
	}
}

// within fails if something does not end in time.
func within(t *testing.T, what string, limit time.Duration, f func()) {
	t.Helper()
	done := make(chan bool)
	go func() {
		defer close(done)
		f()
	}()
	select {
	case <-done:
	case <-time.After(limit):
		t.Fatalf("%s takes more than %v", what, limit)
	}
}
