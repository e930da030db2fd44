package message

import (
	"slices"

	"cocket/api"
)

// turn says which of its neighbours an item is, and which repetition of it.
type turn struct {
	item, number int
}

// spot is one place in what a schema can make that a segment can have. A way is a list of spots, one for each segment.
type spot struct {
	tag  string
	path []turn // the groups around it, from the outermost one on, and the segment
	next []int  // the spots that can come right behind it
	ends bool   // whether a message can end with it
}

// chart is all spots of a schema. The first one is not of a segment: it is what every message begins with.
type chart []spot

// span is something that a schema makes: the spots that can be its first and its last ones, and whether it can be left out.
type span struct {
	firsts, lasts []int
	optional      bool
}

func newChart(schema []api.Item) chart {
	c := chart{{}}
	all := c.list(schema, nil)
	all = c.join(span{lasts: []int{0}}, all)
	for _, last := range all.lasts {
		c[last].ends = true
	}
	return c
}

// join is one span and then another one.
func (c *chart) join(a, b span) span {
	for _, last := range a.lasts {
		(*c)[last].next = append((*c)[last].next, b.firsts...)
	}
	both := span{firsts: a.firsts, lasts: b.lasts, optional: a.optional && b.optional}
	if a.optional {
		both.firsts = slices.Concat(a.firsts, b.firsts)
	}
	if b.optional {
		both.lasts = slices.Concat(a.lasts, b.lasts)
	}
	return both
}

// list is what items that are neighbours make.
func (c *chart) list(items []api.Item, around []turn) span {
	all := span{optional: true}
	for i, item := range items {
		all = c.join(all, c.turns(item, i, around))
	}
	return all
}

// turns is what an item makes. It is joined from the last repetition on, since one can be left out only together with all that would follow it.
func (c *chart) turns(item api.Item, index int, around []turn) span {
	all := span{optional: true}
	for number := item.Max - 1; number >= 0; number-- {
		one := c.once(item, slices.Concat(around, []turn{{index, number}}))
		all = c.join(one, all)
		all.optional = number >= item.Min
	}
	return all
}

// once is what a single repetition of an item makes.
func (c *chart) once(item api.Item, path []turn) span {
	if item.Tag == "" {
		return c.list(item.Items, path)
	}
	at := []int{len(*c)}
	*c = append(*c, spot{tag: item.Tag, path: path})
	return span{firsts: at, lasts: at}
}
