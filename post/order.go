package post

import (
	"slices"
	"sync"

	"cocket/api"
)

// set is calls of a history, a bit each.
type set uint

// history is calls that are to be put in order.
type history struct {
	calls  []api.Call
	ended  set   // those that every order has
	before []set // of each call those that stand before it, if it stands in the order
}

// state is what the beginning of an order comes to: the calls in it, and the value that was written last.
type state struct {
	placed set
	value  int
}

func newHistory(calls []api.Call, isBefore func(a, b api.Call) bool) history {
	h := history{calls: calls, before: make([]set, len(calls))}
	for i, call := range calls {
		if hasEnded(call) {
			h.ended |= 1 << i
		}
		for j, other := range calls {
			if isBefore(other, call) {
				h.before[i] |= 1 << j
			}
		}
	}
	return h
}

// isWhole reports whether an order can end in this state.
func (h history) isWhole(s state) bool {
	return h.ended&^s.placed == 0
}

// with returns the state after one more call, and whether that call can stand there.
func (h history) with(s state, i int) (state, bool) {
	if !isWithin(i, 0, len(h.calls)-1) || s.placed&(1<<i) != 0 || h.before[i]&^s.placed != 0 {
		return state{}, false
	}
	call := h.calls[i]
	if !call.Write && (!hasEnded(call) || call.Value != s.value) {
		return state{}, false
	}
	return state{s.placed | 1<<i, call.Value}, true
}

// explains reports whether this is an order of the history.
func (h history) explains(order []int) bool {
	s := state{}
	for _, i := range order {
		next, can := h.with(s, i)
		if !can {
			return false
		}
		s = next
	}
	return h.isWhole(s)
}

// least returns the lexicographically least order, if there is one. One goroutine searches for each call with which an order may begin.
func (h history) least() ([]int, bool) {
	if h.isWhole(state{}) {
		return nil, true
	}
	found := make(chan []int, len(h.calls))
	var searches sync.WaitGroup
	for i := range h.calls {
		searches.Add(1)
		go func() {
			defer searches.Done()
			if order, ok := h.beginningWith(i); ok {
				found <- order
			}
		}()
	}
	searches.Wait()
	close(found)
	var least []int
	for order := range found {
		if least == nil || slices.Compare(order, least) < 0 {
			least = order
		}
	}
	return least, least != nil
}

// beginningWith returns the lexicographically least order that begins with a call, if there is one.
func (h history) beginningWith(first int) ([]int, bool) {
	s, can := h.with(state{}, first)
	if !can {
		return nil, false
	}
	rest, found := h.search(s, map[state]bool{})
	return slices.Concat([]int{first}, rest), found
}

// search returns the lexicographically least end of an order whose beginning has come to a state, if there is one. In dead it notes the states without an end, to which many beginnings come.
func (h history) search(s state, dead map[state]bool) ([]int, bool) {
	if h.isWhole(s) {
		return nil, true
	}
	if dead[s] {
		return nil, false
	}
	for i := range h.calls {
		next, can := h.with(s, i)
		if !can {
			continue
		}
		if rest, found := h.search(next, dead); found {
			return slices.Concat([]int{i}, rest), true
		}
	}
	dead[s] = true
	return nil, false
}
