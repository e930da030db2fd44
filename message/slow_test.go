package message_test

import (
	"fmt"
	"math/big"
	"regexp"
	"slices"
	"strings"

	"cocket/api"
)

// slowWay is a fitting message: its tags, what each of its segments is, and all of it as it is nested.
type slowWay struct {
	tags, names []string
	reads       []api.Read
}

// slowCount returns how many ways there are in all, as a product of what is chosen; from 1<<40 on it may be anything as great.
func slowCount(items []api.Item) int {
	all := 1
	for _, item := range items {
		inner := 1
		if item.Tag == "" {
			inner = slowCount(item.Items)
		}
		sum, power := 0, 1
		for k := 0; k <= item.Max; k++ {
			if k >= item.Min {
				sum = min(sum+power, 1<<20)
			}
			power = min(power*inner, 1<<20)
		}
		all = min(all*sum, 1<<40)
	}
	return all
}

// slowTrees makes everything that comes of a list of items. The segments have no numbers yet.
func slowTrees(items []api.Item) [][]api.Read {
	all := [][]api.Read{nil}
	for i, item := range items {
		once := [][]api.Read{nil}
		if item.Tag == "" {
			once = slowTrees(item.Items)
		}
		var more [][]api.Read
		runs := [][]api.Read{nil}
		for k := 0; k <= item.Max; k++ {
			for _, before := range all {
				for _, run := range runs {
					if k >= item.Min {
						more = append(more, slices.Concat(before, run))
					}
				}
			}
			var longer [][]api.Read
			for _, run := range runs {
				for _, within := range once {
					read := api.Read{Item: i, Turn: k, Segment: -1, Within: within}
					longer = append(longer, slices.Concat(run, []api.Read{read}))
				}
			}
			runs = longer
		}
		all = more
	}
	return all
}

// slowNumber gives the segments of a tree their numbers, and says what they are.
func slowNumber(items []api.Item, tree []api.Read, around string, way *slowWay) []api.Read {
	list := slices.Clone(tree)
	for i := range list {
		read := &list[i]
		item := items[read.Item]
		name := fmt.Sprintf("%s/%d.%d", around, read.Item, read.Turn)
		if item.Tag == "" {
			read.Within = slowNumber(item.Items, read.Within, name, way)
			continue
		}
		read.Segment = len(way.tags)
		way.tags = append(way.tags, item.Tag)
		way.names = append(way.names, name)
	}
	return list
}

// slowWays makes all ways of all fitting messages.
func slowWays(schema []api.Item) []slowWay {
	var list []slowWay
	for _, tree := range slowTrees(schema) {
		var way slowWay
		way.reads = slowNumber(schema, tree, "", &way)
		list = append(list, way)
	}
	return list
}

// begins returns those of the ways whose tags begin with these.
func begins(ways []slowWay, tags []string) []slowWay {
	var list []slowWay
	for _, way := range ways {
		if len(way.tags) >= len(tags) && slices.Equal(way.tags[:len(tags)], tags) {
			list = append(list, way)
		}
	}
	return list
}

// slowNext returns what comes next after tags, whether they fit, and whether a message begins with them.
func slowNext(ways []slowWay, tags []string) ([]string, bool, bool) {
	var next []string
	fits := false
	list := begins(ways, tags)
	for _, way := range list {
		if len(way.tags) == len(tags) {
			fits = true
		} else {
			next = append(next, way.tags[len(tags)])
		}
	}
	slices.Sort(next)
	return slices.Compact(next), fits, len(list) > 0
}

// compareLists puts shorter lists first, and those of the same length in lexicographic order.
func compareLists(a, b []string) int {
	if len(a) != len(b) {
		return len(a) - len(b)
	}
	return slices.Compare(a, b)
}

// slowReadings returns the readings of tags as the beginning of a message.
func slowReadings(ways []slowWay, tags []string) int {
	readings := map[string]bool{}
	for _, way := range begins(ways, tags) {
		readings[strings.Join(way.names[:len(tags)], " ")] = true
	}
	return len(readings)
}

// slowUnclear returns the least list with two readings, or false.
func slowUnclear(ways []slowWay) ([]string, bool) {
	first := map[string]string{}
	var best []string
	found := false
	for _, way := range ways {
		for n := 1; n <= len(way.tags); n++ {
			key := strings.Join(way.tags[:n], " ")
			reading := strings.Join(way.names[:n], " ")
			if other, ok := first[key]; ok && other != reading {
				if !found || compareLists(way.tags[:n], best) < 0 {
					best, found = way.tags[:n], true
				}
			}
			if _, ok := first[key]; !ok {
				first[key] = reading
			}
		}
	}
	return best, found
}

// slowFits asks a regular expression.
func slowFits(schema []api.Item, tags []string) bool {
	text := ""
	for _, tag := range tags {
		text += tag + ";"
	}
	return regexp.MustCompile("^" + expression(schema) + "$").MatchString(text)
}

func expression(items []api.Item) string {
	text := ""
	for _, item := range items {
		inner := item.Tag + ";"
		if item.Tag == "" {
			inner = expression(item.Items)
		}
		text += fmt.Sprintf("(?:%s){%d,%d}", inner, item.Min, item.Max)
	}
	return text
}

// slowLengths returns, for each number of segments, how many ways there are of a schema in which every tag is the same: the powers of a polynomial.
func slowLengths(items []api.Item) []*big.Int {
	all := []*big.Int{big.NewInt(1)}
	for _, item := range items {
		inner := []*big.Int{big.NewInt(0), big.NewInt(1)}
		if item.Tag == "" {
			inner = slowLengths(item.Items)
		}
		var sum []*big.Int
		power := []*big.Int{big.NewInt(1)}
		for k := 0; k <= item.Max; k++ {
			if k >= item.Min {
				sum = plus(sum, power)
			}
			power = product(power, inner)
		}
		all = product(all, sum)
	}
	return all
}

func plus(a, b []*big.Int) []*big.Int {
	var list []*big.Int
	for i := range max(len(a), len(b)) {
		sum := new(big.Int)
		if i < len(a) {
			sum.Add(sum, a[i])
		}
		if i < len(b) {
			sum.Add(sum, b[i])
		}
		list = append(list, sum)
	}
	return list
}

// product leaves out powers above 70, which no message of this test has.
func product(a, b []*big.Int) []*big.Int {
	list := make([]*big.Int, min(len(a)+len(b)-1, 71))
	for i := range list {
		list[i] = new(big.Int)
		for j := range a[:min(len(a), i+1)] {
			if i-j < len(b) {
				list[i].Add(list[i], new(big.Int).Mul(a[j], b[i-j]))
			}
		}
	}
	return list
}

const (
	partForm    = `(?:[ -&(-*,-9;->@-~]|\?[+:'?])*`
	elementForm = `\+` + partForm + `(?::` + partForm + `)*`
)

var (
	segmentForm = regexp.MustCompile(`^([A-Z]{2,3})((?:` + elementForm + `)*)'`)
	nextForm    = regexp.MustCompile(`^[+:]` + partForm)
	signForm    = regexp.MustCompile(`\?([+:'?])`)
	tagForm     = regexp.MustCompile(`^[A-Z]{2,3}$`)
)

// slowParse reads a text by regular expressions.
func slowParse(text string) ([]api.Segment, int, api.Errno) {
	if len(text) > 20000 {
		return nil, 0, api.ErrLimit
	}
	var m []api.Segment
	for {
		text = strings.TrimLeft(text, "\n")
		if text == "" {
			return m, 0, api.OK
		}
		found := segmentForm.FindStringSubmatch(text)
		if found == nil {
			return nil, len(m), api.ErrForm
		}
		s := api.Segment{Tag: found[1]}
		for rest := found[2]; rest != ""; {
			piece := nextForm.FindString(rest)
			if piece[0] == '+' {
				s.Elements = append(s.Elements, nil)
			}
			last := &s.Elements[len(s.Elements)-1]
			*last = append(*last, signForm.ReplaceAllString(piece[1:], "$1"))
			rest = rest[len(piece):]
		}
		if len(m) == 60 || !isSlowSegment(s) {
			return nil, len(m), api.ErrLimit
		}
		m = append(m, s)
		text = text[len(found[0]):]
	}
}

// isSlowSegment says it in the chapter's words.
func isSlowSegment(s api.Segment) bool {
	if !tagForm.MatchString(s.Tag) || len(s.Elements) > 8 {
		return false
	}
	for _, parts := range s.Elements {
		if len(parts) < 1 || len(parts) > 5 {
			return false
		}
		for _, part := range parts {
			if len(part) > 20 || strings.ContainsFunc(part, func(r rune) bool { return r < 32 || r > 126 }) {
				return false
			}
		}
	}
	return true
}

// slowPrint writes a message with the help of a replacer.
func slowPrint(m []api.Segment) string {
	replacer := strings.NewReplacer("+", "?+", ":", "?:", "'", "?'", "?", "??")
	text := ""
	for _, s := range m {
		text += s.Tag
		for _, parts := range s.Elements {
			var list []string
			for _, part := range parts {
				list = append(list, replacer.Replace(part))
			}
			text += "+" + strings.Join(list, ":")
		}
		text += "'"
	}
	return text
}

// isReading says whether this is what was read of tags by a list of items, in the chapter's words; it returns how many segments it has.
func isReading(items []api.Item, reads []api.Read, tags []string, first int) (int, bool) {
	at := first
	for i, item := range items {
		count := 0
		for len(reads) > 0 && reads[0].Item == i {
			read := reads[0]
			if read.Turn != count {
				return 0, false
			}
			if item.Tag != "" {
				if read.Segment != at || at >= len(tags) || tags[at] != item.Tag || len(read.Within) > 0 {
					return 0, false
				}
				at++
			} else {
				length, ok := isReading(item.Items, read.Within, tags, at)
				if !ok || read.Segment != -1 {
					return 0, false
				}
				at += length
			}
			count++
			reads = reads[1:]
		}
		if count < item.Min || count > item.Max {
			return 0, false
		}
	}
	return at - first, len(reads) == 0
}
