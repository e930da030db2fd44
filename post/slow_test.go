package post_test

import (
	"math/rand/v2"
	"slices"

	"cocket/api"
)

// slowNet is a net in the chapter's words. It notes what has happened, and looks up there what follows from it.
type slowNet struct {
	n        int
	up       []bool
	taken    [][]api.Message // the puts that each post got
	begun    []*slowCall
	messages []api.Message
	clock    int
}

// slowCall is an operation, and the messages that it took from each post.
type slowCall struct {
	call         api.Call
	turn         int
	lost         bool // its post crashed
	tells, dones map[int]api.Message
	put          api.Message // what it puts, once it does
}

func newSlowNet(n int) *slowNet {
	s := &slowNet{n: n, taken: make([][]api.Message, n)}
	for range n {
		s.up = append(s.up, true)
	}
	return s
}

func isStampGreater(a, b api.Stamp) bool {
	if a.No != b.No {
		return a.No > b.No
	}
	if a.Post != b.Post {
		return a.Post > b.Post
	}
	return a.Turn > b.Turn
}

// greatest returns the stamp and the value of the message with the greatest stamp.
func greatest(messages []api.Message) (api.Stamp, int) {
	most := api.Message{}
	for _, m := range messages {
		if isStampGreater(m.Stamp, most.Stamp) {
			most = m
		}
	}
	return most.Stamp, most.Value
}

// underWay returns the operation of a post that is under way, or nil.
func (s *slowNet) underWay(post int) *slowCall {
	for _, c := range s.begun {
		if c.call.Post == post && !c.lost && c.call.End == -1 {
			return c
		}
	}
	return nil
}

func (s *slowNet) begin(post int, isWrite bool, value int) api.Errno {
	if post < 0 || post >= s.n || isWrite && (value < 1 || value > 1000000) {
		return api.ErrArg
	}
	if !s.up[post] || s.underWay(post) != nil {
		return api.ErrState
	}
	if len(s.begun)+1 > 100 || len(s.messages)+s.n > 500 {
		return api.ErrFull
	}
	s.clock++
	c := &slowCall{call: api.Call{Post: post, Write: isWrite, Value: value, Start: s.clock, End: -1}, turn: 1, tells: map[int]api.Message{}, dones: map[int]api.Message{}}
	for _, former := range s.begun {
		if former.call.Post == post {
			c.turn++
		}
	}
	s.begun = append(s.begun, c)
	s.sendAll(ask(post, 0, c.turn))
	return api.OK
}

func (s *slowNet) Write(post, value int) api.Errno { return s.begin(post, true, value) }
func (s *slowNet) Read(post int) api.Errno         { return s.begin(post, false, 0) }

func (s *slowNet) send(m api.Message) {
	s.messages = append(s.messages, m)
	s.messages = s.messages[:min(len(s.messages), 500)]
}

func (s *slowNet) sendAll(m api.Message) {
	for post := range s.n {
		m.To = post
		s.send(m)
	}
}

func (s *slowNet) Deliver(i int) api.Errno {
	if i < 0 || i >= len(s.messages) {
		return api.ErrRange
	}
	m := s.messages[i]
	s.messages = slices.Concat(s.messages[:i], s.messages[i+1:])
	s.clock++
	if !s.up[m.To] {
		return api.OK
	}
	switch m.Kind {
	case 1:
		kept, value := greatest(s.taken[m.To])
		s.send(tell(m.To, m.From, m.Turn, kept, value))
	case 2:
		s.told(m)
	case 3:
		s.taken[m.To] = append(s.taken[m.To], m)
		s.send(done(m.To, m.From, m.Turn))
	case 4:
		s.done(m)
	}
	return api.OK
}

func (s *slowNet) told(m api.Message) {
	c := s.underWay(m.To)
	if c == nil || c.turn != m.Turn || 2*len(c.tells) > s.n {
		return
	}
	if _, is := c.tells[m.From]; is {
		return
	}
	c.tells[m.From] = m
	if 2*len(c.tells) < s.n || 2*len(c.tells) == s.n {
		return
	}
	var all []api.Message
	for _, m := range c.tells {
		all = append(all, m)
	}
	most, value := greatest(all)
	if c.call.Write {
		most, value = stamp(most.No+1, c.call.Post, c.turn), c.call.Value
	}
	c.put = put(c.call.Post, 0, c.turn, most, value)
	s.sendAll(c.put)
}

func (s *slowNet) done(m api.Message) {
	c := s.underWay(m.To)
	if c == nil || c.turn != m.Turn || 2*len(c.tells) <= s.n {
		return
	}
	c.dones[m.From] = m
	if 2*len(c.dones) > s.n {
		c.call.End = s.clock
		if !c.call.Write {
			c.call.Value = c.put.Value
		}
	}
}

func (s *slowNet) Drop(i int) api.Errno {
	if i < 0 || i >= len(s.messages) {
		return api.ErrRange
	}
	s.messages = slices.Concat(s.messages[:i], s.messages[i+1:])
	return api.OK
}

func (s *slowNet) Repeat(i int) api.Errno {
	if i < 0 || i >= len(s.messages) {
		return api.ErrRange
	}
	if len(s.messages) == 500 {
		return api.ErrFull
	}
	s.send(s.messages[i])
	return api.OK
}

func (s *slowNet) set(post int, up bool) api.Errno {
	if post < 0 || post >= s.n {
		return api.ErrArg
	}
	if s.up[post] == up {
		return api.ErrState
	}
	s.up[post] = up
	if c := s.underWay(post); c != nil {
		c.lost = true
	}
	return api.OK
}

func (s *slowNet) Crash(post int) api.Errno { return s.set(post, false) }
func (s *slowNet) Start(post int) api.Errno { return s.set(post, true) }

func (s *slowNet) Settle(limit int) (int, api.Errno) {
	if limit < 0 || limit > 100000 {
		return 0, api.ErrArg
	}
	for count := range limit {
		if len(s.messages) == 0 {
			return count, api.OK
		}
		s.Deliver(0)
	}
	return limit, api.OK
}

func (s *slowNet) calls() []api.Call {
	var list []api.Call
	for _, c := range s.begun {
		list = append(list, c.call)
	}
	return list
}

// isSlowHistory says in the chapter's words whether calls have no error.
func isSlowHistory(calls []api.Call) bool {
	for i, c := range calls {
		if c.Post < 0 || c.Post > 4 || c.Value < 0 || c.Value > 1000000 || c.Start < 0 || c.End != -1 && c.End <= c.Start {
			return false
		}
		for j, d := range calls {
			isFirst := c.Start < d.Start || c.Start == d.Start && i < j
			if c.Post == d.Post && isFirst && c.End != -1 && c.End >= d.Start {
				return false
			}
		}
	}
	return true
}

// holds says in the chapter's words whether this is an order that holds.
func holds(calls []api.Call, order []int) bool {
	for place, i := range order {
		if i < 0 || i >= len(calls) || slices.Contains(order[:place], i) || calls[i].End == -1 && !calls[i].Write {
			return false
		}
		if calls[i].Write {
			continue
		}
		last := 0
		for _, former := range order[:place] {
			if calls[former].Write {
				last = calls[former].Value
			}
		}
		if calls[i].Value != last {
			return false
		}
	}
	for i, c := range calls {
		if c.End != -1 && !slices.Contains(order, i) {
			return false
		}
	}
	return true
}

// standsRight says whether no two calls of the order stand the wrong way round.
func standsRight(calls []api.Call, order []int, isBefore func(a, b api.Call) bool) bool {
	for place, i := range order {
		for _, former := range order[:place] {
			if isBefore(calls[i], calls[former]) {
				return false
			}
		}
	}
	return true
}

func endedBefore(a, b api.Call) bool { return a.End != -1 && a.End < b.Start }

func earlierAtPost(a, b api.Call) bool {
	return a.Post == b.Post && a.End != -1 && b.End != -1 && a.Start < b.Start
}

func slowExplains(calls []api.Call, order []int) bool {
	return holds(calls, order) && standsRight(calls, order, endedBefore)
}

// slowLeast goes through all lists of calls, in lexicographic order, and returns the first one that is right.
func slowLeast(calls []api.Call, isBefore func(a, b api.Call) bool) ([]int, bool) {
	var found []int
	var from func(order []int) bool
	from = func(order []int) bool {
		if holds(calls, order) && standsRight(calls, order, isBefore) {
			found = order
			return true
		}
		for i := range calls {
			if !slices.Contains(order, i) && from(append(slices.Clone(order), i)) {
				return true
			}
		}
		return false
	}
	return found, from(nil)
}

// slowRegular returns the index of the first read that has none of the values that it may have, or -1.
func slowRegular(calls []api.Call) int {
	for i, r := range calls {
		if r.Write || r.End == -1 {
			continue
		}
		var may []int
		isFirst := true
		for _, w := range calls {
			if !w.Write {
				continue
			}
			if w.End != -1 && w.End < r.Start {
				isFirst = false
			}
			isLast := true
			for _, other := range calls {
				if other.Write && w.End != -1 && other.Start > w.End && other.End != -1 && other.End < r.Start {
					isLast = false
				}
			}
			if w.Start <= r.End && isLast {
				may = append(may, w.Value)
			}
		}
		if isFirst {
			may = append(may, 0)
		}
		if !slices.Contains(may, r.Value) {
			return i
		}
	}
	return -1
}

// life says what random histories are like: so many calls, within so many ticks of the clock, with values up to one.
type life struct{ calls, ticks, values int }

// history makes a random history. What is written and read at first comes of an order, of which each call has its place between its start and its end; then, at times, a few values are changed.
func (l life) history(r *rand.Rand) []api.Call {
	var calls []api.Call
	var places []float64
	free := make([]int, 1+r.IntN(api.MaxPosts)) // when each post can start again
	for range l.calls {
		at := r.IntN(len(free))
		c := api.Call{Post: at, Write: r.IntN(2) == 0, Start: free[at] + r.IntN(l.ticks)}
		if c.Write && r.IntN(10) > 0 {
			c.Value = 1 + r.IntN(l.values)
		}
		c.End = c.Start + 1 + r.IntN(l.ticks)
		place := float64(c.Start) + r.Float64()*float64(c.End-c.Start)
		free[at] = c.End + 1
		if r.IntN(5) == 0 {
			c.End = -1
			place = float64(c.Start) + r.Float64()*float64(3*l.ticks)
			free[at] = c.Start + 1
		}
		calls, places = append(calls, c), append(places, place)
	}
	live(calls, places)
	for range r.IntN(3) {
		if i := r.IntN(max(1, len(calls))); i < len(calls) && !calls[i].Write {
			calls[i].Value = r.IntN(l.values + 1)
		}
	}
	r.Shuffle(len(calls), func(i, j int) { calls[i], calls[j] = calls[j], calls[i] })
	return calls
}

// live gives the reads the values that were written before them.
func live(calls []api.Call, places []float64) {
	order := make([]int, len(calls))
	for i := range order {
		order[i] = i
	}
	slices.SortFunc(order, func(a, b int) int {
		if places[a] < places[b] {
			return -1
		}
		return 1
	})
	value := 0
	for _, i := range order {
		if calls[i].Write {
			value = calls[i].Value
		} else if calls[i].End != -1 {
			calls[i].Value = value
		}
	}
}

// histories makes random histories.
func histories(count int, lives []life, test func(*rand.Rand, []api.Call)) {
	r := rand.New(rand.NewPCG(9, uint64(count)))
	for i := range count {
		l := lives[i%len(lives)]
		l.calls = r.IntN(l.calls + 1)
		test(r, l.history(r))
	}
}

// Short ones have few enough orders for all of them to be listed.
func short() []life { return []life{{6, 3, 2}, {6, 5, 3}, {5, 12, 2}, {6, 2, 1}} }
func long() []life  { return []life{{10, 3, 3}, {10, 6, 4}, {10, 12, 2}, {10, 30, 5}} }
