package message

import "cocket/api"

// reader reads a text from its beginning.
type reader struct {
	rest string
}

func (r *reader) isDone() bool {
	return r.rest == ""
}

// take returns the next bytes, which are then read.
func (r *reader) take(count int) string {
	taken := r.rest[:count]
	r.rest = r.rest[count:]
	return taken
}

// takes reads a byte if it comes next, and reports whether it did.
func (r *reader) takes(b byte) bool {
	if r.isDone() || r.rest[0] != b {
		return false
	}
	r.take(1)
	return true
}

func (r *reader) skipLineFeeds() {
	for r.takes('\n') {
	}
}

// segment reads a segment, and reports whether it has a form. How much there may be of it is not its concern.
func (r *reader) segment() (api.Segment, bool) {
	s := api.Segment{Tag: r.take(countBytes(r.rest, isUpper))}
	for r.takes('+') {
		s.Elements = append(s.Elements, r.element())
	}
	return s, r.takes('\'') && isTag(s.Tag)
}

func (r *reader) element() []string {
	parts := []string{r.part()}
	for r.takes(':') {
		parts = append(parts, r.part())
	}
	return parts
}

// part reads a part. It stops before what cannot stand there, where the segment then does not find its end.
func (r *reader) part() string {
	var part []byte
	for !r.isDone() && isPlain(r.rest[0]) {
		if isSign(r.rest[0]) && !r.skipsMark() {
			break
		}
		part = append(part, r.take(1)...)
	}
	return string(part)
}

// skipsMark reads the question mark before a sign, and reports whether there is one.
func (r *reader) skipsMark() bool {
	if len(r.rest) < 2 || r.rest[0] != '?' || !isSign(r.rest[1]) {
		return false
	}
	return r.takes('?')
}

func appendSegment(text []byte, s api.Segment) []byte {
	text = append(text, s.Tag...)
	for _, element := range s.Elements {
		before := byte('+')
		for _, part := range element {
			text = append(text, before)
			text = appendPart(text, part)
			before = ':'
		}
	}
	return append(text, '\'')
}

func appendPart(text []byte, part string) []byte {
	for i := range len(part) {
		if isSign(part[i]) {
			text = append(text, '?')
		}
		text = append(text, part[i])
	}
	return text
}
