package post

import (
	"slices"

	"cocket/api"
)

// Net is posts that share a register, and the messages between them.
type Net struct {
	stations []station
	messages []api.Message
	calls    []api.Call
	clock    int
}

// pending is the End of a call that has not ended.
const pending = -1

// begin begins an operation at a post.
func (t *Net) begin(call api.Call) api.Errno {
	s := &t.stations[call.Post]
	if !s.up || s.work != nil {
		return api.ErrState
	}
	if len(t.calls) >= api.MaxCalls || len(t.messages)+len(t.stations) > api.MaxMessages {
		return api.ErrFull
	}
	t.clock++
	call.Start, call.End = t.clock, pending
	s.turns++
	s.work = &operation{call: len(t.calls), awaited: api.MsgTell, answered: make([]bool, len(t.stations))}
	t.calls = append(t.calls, call)
	t.sendAll(api.Message{Kind: api.MsgAsk, From: call.Post, Turn: s.turns})
	return api.OK
}

// bring makes a post come up, or go down: an operation that was under way never ends.
func (t *Net) bring(post int, up bool) api.Errno {
	if e := t.checkPost(post); e != api.OK {
		return e
	}
	s := &t.stations[post]
	if s.up == up {
		return api.ErrState
	}
	s.up = up
	s.work = nil
	return api.OK
}

// send puts a message at the end of the list; what goes beyond the limit is lost.
func (t *Net) send(m api.Message) {
	if len(t.messages) < api.MaxMessages {
		t.messages = append(t.messages, m)
	}
}

// sendAll sends a message to all posts.
func (t *Net) sendAll(m api.Message) {
	for post := range t.stations {
		m.To = post
		t.send(m)
	}
}

// takeAway takes a message from the list.
func (t *Net) takeAway(i int) api.Message {
	m := t.messages[i]
	t.messages = slices.Delete(t.messages, i, i+1)
	return m
}

func (t *Net) deliver(i int) {
	m := t.takeAway(i)
	t.clock++
	if t.stations[m.To].up {
		t.receive(m)
	}
}

// receive does what a post that is up does with a message.
func (t *Net) receive(m api.Message) {
	s := &t.stations[m.To]
	switch m.Kind {
	case api.MsgAsk:
		t.send(api.Message{Kind: api.MsgTell, From: m.To, To: m.From, Turn: m.Turn, Stamp: s.kept.stamp, Value: s.kept.value})
	case api.MsgTell:
		if s.takes(m) {
			s.work.told.raise(record{m.Stamp, m.Value})
			if s.work.isAnswered() {
				t.put(m.To)
			}
		}
	case api.MsgPut:
		s.kept.raise(record{m.Stamp, m.Value})
		t.send(api.Message{Kind: api.MsgDone, From: m.To, To: m.From, Turn: m.Turn})
	case api.MsgDone:
		if s.takes(m) && s.work.isAnswered() {
			t.end(m.To)
		}
	}
}

// put sends what the operation of a post has come to: what it was told, or what it writes after that.
func (t *Net) put(post int) {
	s := &t.stations[post]
	if call := t.calls[s.work.call]; call.Write {
		s.work.told = record{api.Stamp{No: s.work.told.stamp.No + 1, Post: post, Turn: s.turns}, call.Value}
	}
	s.work.awaited = api.MsgDone
	clear(s.work.answered)
	t.sendAll(api.Message{Kind: api.MsgPut, From: post, Turn: s.turns, Stamp: s.work.told.stamp, Value: s.work.told.value})
}

// end ends the operation of a post: a read has returned what it put.
func (t *Net) end(post int) {
	s := &t.stations[post]
	call := &t.calls[s.work.call]
	call.Value, call.End = s.work.told.value, t.clock
	s.work = nil
}
