package post

import (
	"cmp"

	"cocket/api"
)

// record is a value, and the stamp with which it was written.
type record struct {
	stamp api.Stamp
	value int
}

// raise makes it the other record if that has a greater stamp.
func (r *record) raise(other record) {
	if compare(other.stamp, r.stamp) > 0 {
		*r = other
	}
}

func compare(a, b api.Stamp) int {
	return cmp.Or(cmp.Compare(a.No, b.No), cmp.Compare(a.Post, b.Post), cmp.Compare(a.Turn, b.Turn))
}

// station is a post: what is on its disk, and what a crash takes from it.
type station struct {
	kept  record
	turns int // how many operations it has begun: while one is under way, its turn
	up    bool
	work  *operation // nil if none is under way
}

// operation asks until a majority has told, and puts until a majority is done.
type operation struct {
	call     int    // its index among the calls of the net
	awaited  int    // the kind of message that it waits for: MsgTell or MsgDone
	answered []bool // the posts of which it has taken one
	told     record // the greatest one that it was told; then what it puts
}

// takes reports whether the post's operation waits for this message, and notes who has answered.
func (s *station) takes(m api.Message) bool {
	work := s.work
	if work == nil || work.answered[m.From] {
		return false
	}
	m.Stamp, m.Value = api.Stamp{}, 0 // whatever it tells
	if m != (api.Message{Kind: work.awaited, From: m.From, To: m.To, Turn: s.turns}) {
		return false
	}
	work.answered[m.From] = true
	return true
}

// isAnswered reports whether a majority has answered.
func (o *operation) isAnswered() bool {
	count := 0
	for _, answered := range o.answered {
		if answered {
			count++
		}
	}
	return count > len(o.answered)/2
}

// twin returns an operation of its own.
func (o *operation) twin() *operation {
	if o == nil {
		return nil
	}
	twin := *o
	twin.answered = make([]bool, len(o.answered))
	copy(twin.answered, o.answered)
	return &twin
}
