package message

import (
	"slices"

	"cocket/api"
)

func isMessage(m []api.Segment) bool {
	return len(m) <= api.MaxSegments && !slices.ContainsFunc(m, func(s api.Segment) bool { return !isSegment(s) })
}

func isSegment(s api.Segment) bool {
	return isTag(s.Tag) && len(s.Elements) <= api.MaxElements && !slices.ContainsFunc(s.Elements, func(element []string) bool { return !isElement(element) })
}

func isElement(parts []string) bool {
	return isWithin(len(parts), 1, api.MaxPieces) && !slices.ContainsFunc(parts, func(part string) bool { return !isPart(part) })
}

func isPart(part string) bool {
	return len(part) <= api.MaxPiece && countBytes(part, isPlain) == len(part)
}

func isTag(tag string) bool {
	return isWithin(len(tag), 2, 3) && countBytes(tag, isUpper) == len(tag)
}

// countBytes returns how many bytes at the beginning of a text are of a kind.
func countBytes(text string, isKind func(byte) bool) int {
	count := 0
	for count < len(text) && isKind(text[count]) {
		count++
	}
	return count
}

func isUpper(b byte) bool {
	return b >= 'A' && b <= 'Z'
}

// isPlain reports whether the byte may stand in a part.
func isPlain(b byte) bool {
	return b >= 32 && b <= 126
}

// isSign reports whether the byte stands in the text of a part only behind a question mark.
func isSign(b byte) bool {
	return b == '+' || b == ':' || b == '\'' || b == '?'
}

func isSchema(schema []api.Item) bool {
	count, ok := countItems(schema, api.MaxDeep)
	return ok && count <= api.MaxAll
}

// countItems returns how many items these are in all, and whether each is right and they are nested at most so deep.
func countItems(items []api.Item, deep int) (int, bool) {
	if deep == 0 || !isWithin(len(items), 1, api.MaxItems) {
		return 0, false
	}
	all := len(items)
	for _, item := range items {
		if !isWithin(item.Max, 1, api.MaxTurns) || !isWithin(item.Min, 0, item.Max) {
			return 0, false
		}
		if isTag(item.Tag) && len(item.Items) == 0 {
			continue
		}
		count, ok := countItems(item.Items, deep-1)
		if !ok || item.Tag != "" || !slices.ContainsFunc(item.Items, func(within api.Item) bool { return within.Min > 0 }) {
			return 0, false
		}
		all += count
	}
	return all, true
}

func isWithin(n, least, greatest int) bool {
	return n >= least && n <= greatest
}
