package message

import (
	"slices"
	"strings"

	"cocket/api"
)

// readings returns, for each spot, in how many ways these tags can be read so that the last of them is there. More than MaxReadings are counted as one more.
func (c chart) readings(tags []string) []int {
	counts := make([]int, len(c))
	counts[0] = 1
	for _, tag := range tags {
		counts = c.further(counts, tag)
	}
	return counts
}

// further returns the readings with one more tag.
func (c chart) further(counts []int, tag string) []int {
	list := make([]int, len(c))
	for at, count := range counts {
		if count == 0 {
			continue
		}
		for _, next := range c[at].next {
			if c[next].tag == tag {
				list[next] = min(list[next]+count, api.MaxReadings+1)
			}
		}
	}
	return list
}

// ways returns in how many ways the tags fit; it counts more than MaxReadings as some number above that.
func (c chart) ways(tags []string) int {
	all := 0
	for at, count := range c.readings(tags) {
		if c[at].ends {
			all += count
		}
	}
	return all
}

// next returns the tags that can come next after these, whether these fit, and whether a fitting message begins with these at all.
func (c chart) next(tags []string) (list []string, fits, begins bool) {
	for at, count := range c.readings(tags) {
		if count == 0 {
			continue
		}
		begins = true
		fits = fits || c[at].ends
		for _, next := range c[at].next {
			list = append(list, c[next].tag)
		}
	}
	slices.Sort(list)
	return slices.Compact(list), fits, begins
}

// unclear returns the least list of tags that has two readings, if there is one. Up to its last tag it has a single one: so it is found behind the first spot, among those that lists with a single reading come to, that has two next ones with the same tag.
func (c chart) unclear() ([]string, bool) {
	from := slices.Repeat([]int{-1}, len(c)) // by which spot a spot was first come to
	queue := []int{0}
	for i := 0; i < len(queue); i++ {
		at := queue[i]
		next := slices.Clone(c[at].next)
		slices.SortFunc(next, func(a, b int) int { return strings.Compare(c[a].tag, c[b].tag) })
		for j, to := range next {
			if j > 0 && c[to].tag == c[next[j-1]].tag {
				return append(c.tagsTo(at, from), c[to].tag), true
			}
		}
		for _, to := range next {
			if from[to] < 0 {
				from[to] = at
				queue = append(queue, to)
			}
		}
	}
	return nil, false
}

// tagsTo returns the tags on the way to a spot.
func (c chart) tagsTo(at int, from []int) []string {
	var tags []string
	for ; at > 0; at = from[at] {
		tags = append(tags, c[at].tag)
	}
	slices.Reverse(tags)
	return tags
}

// follow reads the tags by the chart of a clear schema: it returns the spots of those that can come where they are, up to the first that cannot, and whether the tags fit.
func (c chart) follow(tags []string) ([]int, bool) {
	var way []int
	at := 0
reading:
	for _, tag := range tags {
		for i := 0; ; i++ {
			if i == len(c[at].next) {
				break reading // this tag cannot come here, and so nothing behind it is read
			}
			if next := c[at].next[i]; c[next].tag == tag {
				at = next
				break
			}
		}
		way = append(way, at)
	}
	return way, len(way) == len(tags) && c[at].ends
}

// nest returns a part of a way as it is nested within so many groups; first is the index of its first segment.
func (c chart) nest(way []int, deep, first int) []api.Read {
	var list []api.Read
	for len(way) > 0 {
		path := c[way[0]].path
		read := api.Read{Item: path[deep].item, Turn: path[deep].number, Segment: first}
		length := 1
		if deep+1 < len(path) {
			for length < len(way) && c[way[length]].path[deep] == path[deep] {
				length++
			}
			read.Segment = -1
			read.Within = c.nest(way[:length], deep+1, first)
		}
		list = append(list, read)
		way = way[length:]
		first += length
	}
	return list
}

// shortest returns the tags of the shortest message. There is only one: each item stands as seldom as it may, as no repetition of it makes nothing.
func shortest(items []api.Item) []string {
	var tags []string
	for _, item := range items {
		once := []string{item.Tag}
		if item.Tag == "" {
			once = shortest(item.Items)
		}
		tags = append(tags, slices.Repeat(once, item.Min)...)
	}
	return tags
}
