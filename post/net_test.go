package post_test

import (
	"math/rand/v2"
	"slices"
	"testing"

	"cocket/api"
)

func TestExampleNet(t *testing.T) {
	n := newNet(t, 3)
	n.write(0, 7)
	if count := n.settle(); count != 12 {
		t.Errorf("%d messages", count)
	}
	n.wantsCalls(write(0, 7, 1, 12))
	n.read(1)
	n.settle()
	n.wantsCalls(write(0, 7, 1, 12), read(1, 7, 14, 25))
}

func TestP9_1New(t *testing.T) {
	for posts := 1; posts <= 5; posts++ {
		n := newNet(t, posts)
		n.wantsMessages()
		n.wantsCalls()
		for at := range posts {
			n.wantsUp(at, true)
			n.wantsBusy(at, false)
			n.wantsKept(at, api.Stamp{}, 0)
		}
		if count := n.settle(); count != 0 {
			t.Errorf("%d messages of a new net", count)
		}
	}
}

// What an operation sends from its beginning on, message by message.
func TestP9_1Write(t *testing.T) {
	n := newNet(t, 3)
	n.write(1, 1000000)
	n.wantsBusy(1, true)
	n.wantsBusy(0, false)
	n.wantsCalls(write(1, 1000000, 1, -1))
	n.wantsMessages(ask(1, 0, 1), ask(1, 1, 1), ask(1, 2, 1))
	n.deliver(0)
	n.wantsMessages(ask(1, 1, 1), ask(1, 2, 1), tell(0, 1, 1, api.Stamp{}, 0))
	n.deliver(1)
	n.wantsMessages(ask(1, 1, 1), tell(0, 1, 1, api.Stamp{}, 0), tell(2, 1, 1, api.Stamp{}, 0))
	n.deliver(1)
	n.wantsMessages(ask(1, 1, 1), tell(2, 1, 1, api.Stamp{}, 0))
	n.deliver(1)
	s := stamp(1, 1, 1)
	n.wantsMessages(ask(1, 1, 1), put(1, 0, 1, s, 1000000), put(1, 1, 1, s, 1000000), put(1, 2, 1, s, 1000000))
	n.wantsKept(1, api.Stamp{}, 0)
	n.deliver(3)
	n.wantsMessages(ask(1, 1, 1), put(1, 0, 1, s, 1000000), put(1, 1, 1, s, 1000000), done(2, 1, 1))
	n.wantsKept(2, s, 1000000)
	n.wantsKept(0, api.Stamp{}, 0)
	n.deliver(1)
	n.deliver(2)
	n.wantsBusy(1, true)
	n.deliver(2)
	n.wantsBusy(1, false)
	n.wantsMessages(ask(1, 1, 1), put(1, 1, 1, s, 1000000))
	n.wantsKept(1, api.Stamp{}, 0)
	n.wantsCalls(write(1, 1000000, 1, 9))
	n.settle()
	n.wantsKept(1, s, 1000000)
	n.wantsCalls(write(1, 1000000, 1, 9))
}

// A read puts what it was told, with the stamp that it had.
func TestP9_1Read(t *testing.T) {
	n := newNet(t, 3)
	n.write(2, 5)
	n.asks(2, 0, 1)
	n.puts(2, 0)
	n.crash(2)
	n.dropAll()
	n.read(1)
	n.wantsMessages(ask(1, 0, 1), ask(1, 1, 1), ask(1, 2, 1))
	n.asks(1, 1)
	n.deliver(0)
	n.wantsMessages(ask(1, 2, 1), tell(0, 1, 1, stamp(1, 2, 1), 5))
	n.deliver(1)
	s := stamp(1, 2, 1)
	n.wantsMessages(ask(1, 2, 1), put(1, 0, 1, s, 5), put(1, 1, 1, s, 5), put(1, 2, 1, s, 5))
	n.wantsCalls(write(2, 5, 1, -1), read(1, 0, 8, -1))
	n.puts(1, 1)
	n.wantsKept(1, s, 5)
	n.wantsBusy(1, true)
	n.puts(1, 0)
	n.wantsBusy(1, false)
	n.wantsCalls(write(2, 5, 1, -1), read(1, 5, 8, 16))
}

// A read returns what was told before it put, whatever its post keeps then.
func TestP9_1ReadReturnsWhatItPuts(t *testing.T) {
	n := newNet(t, 3)
	n.read(0)
	n.asks(0, 1, 2)
	n.write(1, 5)
	n.asks(1, 1, 2)
	n.puts(1, 0, 1)
	n.wantsKept(0, stamp(1, 1, 1), 5)
	n.puts(0, 0, 1)
	n.wantsCalls(read(0, 0, 1, 18), write(1, 5, 6, 14))
	n.wantsKept(0, stamp(1, 1, 1), 5)
}

func TestP9_1ReadOfNothing(t *testing.T) {
	n := newNet(t, 2)
	n.read(0)
	n.asks(0, 0, 1)
	n.wantsMessages(put(0, 0, 1, api.Stamp{}, 0), put(0, 1, 1, api.Stamp{}, 0))
	n.settle()
	n.wantsCalls(read(0, 0, 1, 9))
	n.wantsKept(0, api.Stamp{}, 0)
}

// Of so many posts a majority is enough, twice, and fewer are not.
func TestP9_1Majority(t *testing.T) {
	for posts, majority := range []int{0, 1, 2, 2, 3, 3} {
		if posts == 0 {
			continue
		}
		n := newNet(t, posts)
		n.write(0, 7)
		for other := range majority {
			if slices.ContainsFunc(n.Messages(), func(m api.Message) bool { return m.Kind == api.MsgPut }) {
				t.Errorf("%d of %d posts were enough to put", other, posts)
			}
			n.asks(0, other)
		}
		for other := range majority {
			n.wantsBusy(0, true)
			n.puts(0, posts-1-other)
		}
		n.wantsBusy(0, false)
		n.wantsCalls(write(0, 7, 1, 1+4*majority))
		left := posts - majority
		if got := len(n.Messages()); got != 2*left {
			t.Errorf("%d messages are left of %d posts: %v", got, posts, n.Messages())
		}
		n.settle()
		n.wantsCalls(write(0, 7, 1, 1+4*majority))
	}
}

// The turn is counted for each post, over reads and writes, and over a crash.
func TestP9_1Turns(t *testing.T) {
	n := newNet(t, 3)
	for turn := 1; turn <= 3; turn++ {
		n.read(0)
		n.wantsMessages(ask(0, 0, turn), ask(0, 1, turn), ask(0, 2, turn))
		n.settle()
	}
	n.write(1, 4)
	n.wantsMessages(ask(1, 0, 1), ask(1, 1, 1), ask(1, 2, 1))
	n.settle()
	n.wantsKept(0, stamp(1, 1, 1), 4)
	n.write(0, 5)
	n.wantsMessages(ask(0, 0, 4), ask(0, 1, 4), ask(0, 2, 4))
	n.settle()
	n.wantsKept(2, stamp(2, 0, 4), 5)
	n.write(0, 6)
	n.crash(0)
	n.start(0)
	n.dropAll()
	n.write(0, 7)
	n.wantsMessages(ask(0, 0, 6), ask(0, 1, 6), ask(0, 2, 6))
	n.settle()
	n.wantsKept(1, stamp(3, 0, 6), 7)
	if n.Write(0, 0) == api.OK || n.Write(3, 1) == api.OK || n.Start(0) == api.OK {
		t.Error("no errors")
	}
	n.read(0)
	n.wantsMessages(ask(0, 0, 7), ask(0, 1, 7), ask(0, 2, 7))
}

// What the same post tells twice counts once, and the first time.
func TestP9_1TellTwice(t *testing.T) {
	n := newNet(t, 3)
	n.read(0)
	n.repeat(1) // a second question for post 1
	n.pass(api.MsgAsk, 0, 1)
	n.repeat(3) // and its answer twice
	n.pass(api.MsgTell, 1, 0)
	n.pass(api.MsgTell, 1, 0)
	n.wantsMessages(ask(0, 0, 1), ask(0, 2, 1), ask(0, 1, 1))
	n.write(2, 5)
	n.asks(2, 2, 1)
	n.puts(2, 1)
	n.wantsKept(1, stamp(1, 2, 1), 5)
	n.pass(api.MsgAsk, 0, 1)
	n.pass(api.MsgTell, 1, 0) // another one than the first time
	if slices.ContainsFunc(n.Messages(), func(m api.Message) bool { return m.Kind == api.MsgPut && m.From == 0 }) {
		t.Errorf("one post is a majority: %v", n.Messages())
	}
	n.asks(0, 0)
	if !slices.Contains(n.Messages(), put(0, 1, 1, api.Stamp{}, 0)) {
		t.Errorf("what was told first counts: %v", n.Messages())
	}
}

// What is told after the question is settled changes nothing.
func TestP9_1TellLate(t *testing.T) {
	n := newNet(t, 3)
	n.read(0)
	n.asks(0, 0, 1)
	n.write(2, 5)
	n.asks(2, 1, 2)
	n.puts(2, 2)
	n.asks(0, 2) // it has 5, but comes late
	n.puts(0, 0)
	n.wantsBusy(0, true)
	n.puts(0, 1)
	n.wantsBusy(0, false)
	if got := n.Calls()[0]; got.Value != 0 || got.End < 0 {
		t.Errorf("%v", got)
	}
}

func TestP9_1DoneTwice(t *testing.T) {
	n := newNet(t, 3)
	n.write(0, 7)
	n.asks(0, 0, 1)
	n.pass(api.MsgPut, 0, 1)
	n.repeat(len(n.Messages()) - 1)
	n.pass(api.MsgDone, 1, 0)
	n.pass(api.MsgDone, 1, 0)
	n.wantsBusy(0, true)
	n.asks(0, 2)
	n.wantsBusy(0, true)
	n.puts(0, 0)
	n.wantsBusy(0, false)
}

// Who has told must still be done: the answers are counted anew.
func TestP9_1TellIsNotDone(t *testing.T) {
	n := newNet(t, 5)
	n.write(4, 7)
	n.asks(4, 0, 1, 2)
	n.asks(4, 3, 4)
	n.wantsBusy(4, true)
	n.puts(4, 0, 1)
	n.wantsBusy(4, true)
	n.puts(4, 2)
	n.wantsBusy(4, false)
}

// Answers to an operation that a crash has ended are none to the next one.
func TestP9_1OtherTurns(t *testing.T) {
	n := newNet(t, 3)
	n.write(0, 7)
	n.pass(api.MsgAsk, 0, 1)
	n.pass(api.MsgAsk, 0, 2)
	n.crash(0)
	n.start(0)
	n.settle() // without an operation
	n.wantsMessages()
	n.write(0, 8)
	n.asks(0, 1, 2)
	n.pass(api.MsgPut, 0, 1)
	n.pass(api.MsgPut, 0, 2)
	n.crash(0)
	n.start(0)
	n.drop(0)
	n.drop(0)
	n.wantsMessages(done(1, 0, 2), done(2, 0, 2))
	n.read(0)
	n.wantsMessages(done(1, 0, 2), done(2, 0, 2), ask(0, 0, 3), ask(0, 1, 3), ask(0, 2, 3))
	n.asks(0, 0, 1)
	n.pass(api.MsgDone, 1, 0)
	n.pass(api.MsgDone, 2, 0)
	n.wantsBusy(0, true)
	n.puts(0, 1, 2)
	calls := n.Calls()
	if len(calls) != 3 || calls[0].End != -1 || calls[1].End != -1 || calls[2].Value != 8 || calls[2].End < 0 {
		t.Errorf("%v", calls)
	}
}

func TestP9_1TellOfOtherTurns(t *testing.T) {
	n := newNet(t, 3)
	n.read(0)
	n.pass(api.MsgAsk, 0, 1)
	n.pass(api.MsgAsk, 0, 2)
	n.crash(0)
	n.start(0)
	n.drop(0)
	n.read(0)
	n.pass(api.MsgTell, 1, 0)
	n.pass(api.MsgTell, 2, 0)
	n.wantsMessages(ask(0, 0, 2), ask(0, 1, 2), ask(0, 2, 2))
	n.asks(0, 1)
	n.wantsMessages(ask(0, 0, 2), ask(0, 2, 2))
	n.asks(0, 2)
	n.puts(0, 0, 1)
	n.wantsBusy(0, false)
}

// Done before anything was put comes of an earlier operation, or is nothing.
func TestP9_1EndedIsEnded(t *testing.T) {
	n := newNet(t, 1)
	n.write(0, 7)
	n.repeat(0)
	n.asks(0, 0)
	n.repeat(1)
	n.puts(0, 0)
	n.wantsCalls(write(0, 7, 1, 5))
	n.asks(0, 0)
	n.puts(0, 0)
	n.wantsMessages()
	n.wantsCalls(write(0, 7, 1, 5))
	n.wantsBusy(0, false)
	n.wantsKept(0, stamp(1, 0, 1), 7)
}

// wantsGreater fails if a post that gets both of two puts does not keep what b puts, whichever comes first, or does not answer both.
func wantsGreater(t *testing.T, n net, a, b api.Message) {
	t.Helper()
	for _, m := range []api.Message{a, b} {
		twin := n.twin()
		other := b
		if m == b {
			other = a
		}
		for _, m := range []api.Message{m, other} {
			twin.deliver(slices.Index(twin.Messages(), m))
		}
		twin.wantsKept(m.To, b.Stamp, b.Value)
		list := twin.Messages()
		if len(list) < 2 || list[len(list)-2] != done(m.To, m.From, m.Turn) || list[len(list)-1] != done(other.To, other.From, other.Turn) {
			twin.t.Errorf("%v: both are done in any case", list)
		}
	}
}

func TestP9_1StampsByPost(t *testing.T) {
	n := newNet(t, 3)
	for range 4 {
		n.read(0)
		n.settle()
	}
	n.write(0, 7)
	n.write(1, 8)
	n.asks(0, 0, 1)
	n.asks(1, 0, 1)
	wantsGreater(t, n, put(0, 2, 5, stamp(1, 0, 5), 7), put(1, 2, 1, stamp(1, 1, 1), 8))
}

func TestP9_1StampsByNo(t *testing.T) {
	n := newNet(t, 3)
	for range 4 {
		n.read(1)
		n.settle()
	}
	n.write(1, 8)
	n.asks(1, 0, 1)
	n.pass(api.MsgPut, 1, 0)
	n.write(0, 7)
	n.asks(0, 0, 1)
	wantsGreater(t, n, put(1, 2, 5, stamp(1, 1, 5), 8), put(0, 2, 1, stamp(2, 0, 1), 7))
}

func TestP9_1StampsByTurn(t *testing.T) {
	n := newNet(t, 3)
	n.write(0, 8)
	n.asks(0, 0, 1)
	n.crash(0)
	n.start(0)
	n.write(0, 7)
	n.pass(api.MsgAsk, 0, 2) // of the first turn
	n.drop(slices.IndexFunc(n.Messages(), func(m api.Message) bool { return m.Kind == api.MsgTell }))
	n.asks(0, 0, 1)
	wantsGreater(t, n, put(0, 2, 1, stamp(1, 0, 1), 8), put(0, 2, 2, stamp(1, 0, 2), 7))
}

// What is put a second time changes nothing, but is done again.
func TestP9_1PutTwice(t *testing.T) {
	n := newNet(t, 3)
	n.write(0, 8)
	n.asks(0, 0, 1)
	n.pass(api.MsgPut, 0, 2)
	n.pass(api.MsgDone, 2, 0)
	i := slices.Index(n.Messages(), put(0, 1, 1, stamp(1, 0, 1), 8))
	n.repeat(i)
	n.deliver(i)
	n.wantsKept(1, stamp(1, 0, 1), 8)
	n.pass(api.MsgDone, 1, 0)
	n.wantsBusy(0, false)
	n.pass(api.MsgPut, 0, 1)
	n.wantsKept(1, stamp(1, 0, 1), 8)
	n.wantsMessages(ask(0, 2, 1), put(0, 0, 1, stamp(1, 0, 1), 8), done(1, 0, 1))
}

// The greatest of what is told counts, whoever tells it, and first or last.
func TestP9_1GreatestTold(t *testing.T) {
	n := newNet(t, 5)
	for at, value := range []int{10, 11, 12} {
		n.write(at, value)
		n.asks(at, 2, 3, 4)
	}
	for at := range 3 {
		n.puts(at, at)
		n.crash(at)
		n.start(at)
	}
	n.dropAll()
	for _, others := range [][]int{{0, 1, 2}, {2, 1, 0}, {1, 2, 0}, {3, 2, 4}, {2, 3, 4}, {4, 3, 2}} {
		twin := n.twin()
		twin.read(4)
		twin.asks(4, others...)
		if want := put(4, 0, 1, stamp(1, 2, 1), 12); !slices.Contains(twin.Messages(), want) {
			t.Errorf("told by %v: %v; want %v", others, twin.Messages(), want)
		}
		twin = n.twin()
		twin.write(4, 99)
		twin.asks(4, others...)
		if want := put(4, 0, 1, stamp(2, 4, 1), 99); !slices.Contains(twin.Messages(), want) {
			t.Errorf("told by %v: %v; want %v", others, twin.Messages(), want)
		}
	}
	for _, others := range [][]int{{0, 1, 3}, {1, 3, 0}, {3, 4, 1}} {
		twin := n.twin()
		twin.read(4)
		twin.asks(4, others...)
		if want := put(4, 0, 1, stamp(1, 1, 1), 11); !slices.Contains(twin.Messages(), want) {
			t.Errorf("told by %v: %v; want %v", others, twin.Messages(), want)
		}
	}
}

// In all weathers the net does what the chapter says, step by step.
func TestP9_1EveryStep(t *testing.T) {
	seen := map[api.Errno]int{}
	ended := 0
	nets(t, 600, func(r *rand.Rand, w weather, n net) {
		slow := newSlowNet(n.n)
		do := func(s step) {
			got, e := s.do(n.Net)
			want, wantE := s.do(slow)
			seen[e]++
			if got != want || e != wantE {
				t.Fatalf("%v: %d, error %d; want %d, error %d", s, got, e, want, wantE)
			}
		}
		for range 50 + r.IntN(200) {
			if r.IntN(60) == 0 && len(n.Messages()) > 0 { // now and then there is hardly any room left
				for count := len(n.Messages()); count < 499; count++ {
					do(step{"Repeat", []int{r.IntN(count)}})
				}
			}
			s := w.step(r, n)
			do(s)
			wantsSlow(t, n, slow, s)
		}
		for _, c := range n.Calls() {
			if c.End > 0 {
				ended++
			}
		}
	})
	for _, e := range []api.Errno{api.ErrArg, api.ErrState, api.ErrFull, api.ErrRange} {
		if seen[e] < 100 {
			t.Errorf("%d errors %d", seen[e], e)
		}
	}
	if ended < 2000 {
		t.Errorf("%d operations ended", ended)
	}
}

// wantsSlow fails if the net does not show what the slow one does.
func wantsSlow(t *testing.T, n net, slow *slowNet, s step) {
	t.Helper()
	if !slices.Equal(n.Messages(), slow.messages) {
		t.Fatalf("%v: messages %v; want %v", s, n.Messages(), slow.messages)
	}
	if !slices.Equal(n.Calls(), slow.calls()) {
		t.Fatalf("%v: calls %v; want %v", s, n.Calls(), slow.calls())
	}
	for at := range n.n {
		kept, value, e := n.Kept(at)
		want, wantValue := greatest(slow.taken[at])
		if kept != want || value != wantValue || e != api.OK {
			t.Fatalf("%v: Kept(%d): %v, %d, error %d; want %v, %d", s, at, kept, value, e, want, wantValue)
		}
		if busy, e := n.Busy(at); busy != (slow.underWay(at) != nil) || e != api.OK {
			t.Fatalf("%v: Busy(%d): %v, error %d", s, at, busy, e)
		}
	}
}

func TestP9_2Deliver(t *testing.T) {
	n := newNet(t, 5)
	n.read(2)
	n.deliver(3)
	n.wantsMessages(ask(2, 0, 1), ask(2, 1, 1), ask(2, 2, 1), ask(2, 4, 1), tell(3, 2, 1, api.Stamp{}, 0))
	n.deliver(4)
	n.wantsMessages(ask(2, 0, 1), ask(2, 1, 1), ask(2, 2, 1), ask(2, 4, 1))
	n.deliver(0)
	n.wantsMessages(ask(2, 1, 1), ask(2, 2, 1), ask(2, 4, 1), tell(0, 2, 1, api.Stamp{}, 0))
}

func TestP9_2DropAndRepeat(t *testing.T) {
	n := newNet(t, 4)
	n.write(1, 3)
	n.repeat(2)
	n.wantsMessages(ask(1, 0, 1), ask(1, 1, 1), ask(1, 2, 1), ask(1, 3, 1), ask(1, 2, 1))
	n.drop(1)
	n.wantsMessages(ask(1, 0, 1), ask(1, 2, 1), ask(1, 3, 1), ask(1, 2, 1))
	n.drop(3)
	n.drop(0)
	n.wantsMessages(ask(1, 2, 1), ask(1, 3, 1))
	n.repeat(0)
	n.repeat(1)
	n.wantsMessages(ask(1, 2, 1), ask(1, 3, 1), ask(1, 2, 1), ask(1, 3, 1))
	n.dropAll()
	n.wantsBusy(1, true)
	n.wantsCalls(write(1, 3, 1, -1))
}

// At a post that is down nothing comes of a message.
func TestP9_2PostIsDown(t *testing.T) {
	n := newNet(t, 3)
	n.write(0, 7)
	n.asks(0, 0, 1)
	n.crash(2)
	n.pass(api.MsgAsk, 0, 2)
	n.pass(api.MsgPut, 0, 2)
	n.wantsKept(2, api.Stamp{}, 0)
	n.wantsMessages(put(0, 0, 1, stamp(1, 0, 1), 7), put(0, 1, 1, stamp(1, 0, 1), 7))
	n.start(2)
	n.wantsKept(2, api.Stamp{}, 0)
	n.settle()
	n.wantsKept(1, stamp(1, 0, 1), 7)
	n.wantsKept(2, api.Stamp{}, 0)
	n.wantsCalls(write(0, 7, 1, 11))
}

// What goes beyond the limit is lost: of a list that is full, one place is free when a message is taken from it.
func TestP9_2Full(t *testing.T) {
	n := newNet(t, 5)
	n.write(0, 7)
	n.asks(0, 0, 1)
	n.pass(api.MsgAsk, 0, 2)
	n.fill(498)
	if e := n.Write(1, 1); e != api.ErrFull {
		t.Errorf("Write beside 498 messages: error %d", e)
	}
	for full := 498; full <= 500; full++ {
		twin := n.twin()
		twin.fill(full)
		twin.pass(api.MsgTell, 2, 0)
		list := twin.Messages()
		if len(list) != 500 {
			t.Fatalf("%d messages of %d", len(list), full)
		}
		var want []api.Message
		for to := range 501 - full {
			want = append(want, put(0, to, 1, stamp(1, 0, 1), 7))
		}
		if got := list[full-1:]; !slices.Equal(got, want) {
			t.Errorf("of %d messages: %v; want %v", full, got, want)
		}
		twin.settle()
	}
	n.fill(500)
	if e := n.Repeat(0); e != api.ErrFull {
		t.Errorf("Repeat of 500 messages: error %d", e)
	}
	n.pass(api.MsgAsk, 0, 3)
	if list := n.Messages(); len(list) != 500 || list[499] != tell(3, 0, 1, api.Stamp{}, 0) {
		t.Errorf("an answer to one of 500 messages: %v", list[len(list)-1])
	}
	n.drop(0)
	n.repeat(0)
	if e := n.Repeat(499); e != api.ErrFull {
		t.Errorf("Repeat of 500 messages: error %d", e)
	}
}

func TestP9_2BeginBesideMany(t *testing.T) {
	for posts := 1; posts <= 5; posts++ {
		n := newNet(t, posts)
		n.read(0)
		n.crash(0)
		n.start(0)
		n.fill(500 - posts + 1)
		before := n.twin()
		if e := n.Read(0); e != api.ErrFull || !isSame(n, before) {
			t.Errorf("Read beside %d messages: error %d", len(n.Messages()), e)
		}
		if e := n.Write(posts-1, 1); e != api.ErrFull || !isSame(n, before) {
			t.Errorf("Write beside %d messages: error %d", len(n.Messages()), e)
		}
		n.drop(0)
		n.write(0, 1)
		if count := len(n.Messages()); count != 500 {
			t.Errorf("%d messages", count)
		}
	}
}

// An operation that a crash has ended never ends, even if its answers come.
func TestP9_3Crash(t *testing.T) {
	n := newNet(t, 3)
	n.write(0, 7)
	n.asks(0, 0, 1)
	n.pass(api.MsgPut, 0, 0)
	n.pass(api.MsgPut, 0, 1)
	n.crash(0)
	n.wantsUp(0, false)
	n.wantsBusy(0, false)
	n.wantsKept(0, stamp(1, 0, 1), 7)
	if e := n.Read(0); e != api.ErrState {
		t.Errorf("Read at a post that is down: error %d", e)
	}
	n.start(0)
	n.wantsUp(0, true)
	n.wantsBusy(0, false)
	n.settle()
	n.wantsBusy(0, false)
	n.wantsCalls(write(0, 7, 1, -1))
	n.wantsKept(2, stamp(1, 0, 1), 7)
	n.read(0)
	n.settle()
	if calls := n.Calls(); len(calls) != 2 || calls[0].End != -1 || calls[1].Value != 7 || calls[1].End < 0 {
		t.Errorf("%v", calls)
	}
}

func TestP9_3CrashAndStartSendNothing(t *testing.T) {
	n := newNet(t, 3)
	n.write(0, 7)
	n.write(1, 8)
	list := n.Messages()
	n.crash(0)
	n.crash(2)
	n.wantsMessages(list...)
	n.wantsBusy(1, true)
	n.start(2)
	n.start(0)
	n.wantsMessages(list...)
	n.wantsBusy(1, true)
	n.wantsCalls(write(0, 7, 1, -1), write(1, 8, 2, -1))
}

func TestP9_3Settle(t *testing.T) {
	n := newNet(t, 3)
	n.write(0, 7)
	twin := n.twin()
	for _, limit := range []int{0, 1, 4, 0, 6, 5, 7, 100000} {
		count, e := n.Settle(limit)
		want := 0
		for want < limit && len(twin.Messages()) > 0 {
			twin.deliver(0)
			want++
		}
		if count != want || e != api.OK || !isSame(n, twin) {
			t.Errorf("Settle(%d): %d, error %d; want %d", limit, count, e, want)
		}
	}
	n.wantsCalls(write(0, 7, 1, 12))
}

// Settle stops at its limit, and the clock goes on as with Deliver.
func TestP9_3SettleSome(t *testing.T) {
	n := newNet(t, 3)
	n.write(0, 7)
	if count, e := n.Settle(11); count != 11 || e != api.OK {
		t.Errorf("%d, error %d", count, e)
	}
	n.wantsBusy(0, false)
	n.wantsCalls(write(0, 7, 1, 12))
	n.wantsMessages(done(2, 0, 1))
	twin := n.twin()
	if count, e := n.Settle(0); count != 0 || e != api.OK || !isSame(n, twin) {
		t.Errorf("Settle(0): %d, error %d", count, e)
	}
	if count, e := n.Settle(1); count != 1 || e != api.OK {
		t.Errorf("Settle(1): %d, error %d", count, e)
	}
}

// A copy and its net go their own ways, whatever was under way.
func TestP9_3Copy(t *testing.T) {
	n := newNet(t, 3)
	n.write(0, 7)
	n.asks(0, 1)
	before := n.twin()
	twin := n.twin()
	twin.asks(0, 2) // 1 and 2 are a majority in the copy only
	if isSame(n, twin) || !isSame(n, before) {
		t.Errorf("%v; a copy before: %v, after: %v", n.Messages(), before.Messages(), twin.Messages())
	}
	twin.settle()
	twin.wantsKept(1, stamp(1, 0, 1), 7)
	n.wantsKept(1, api.Stamp{}, 0)
	n.asks(0, 0)
	n.pass(api.MsgPut, 0, 0)
	other := n.twin()
	n.puts(0, 1)
	n.crash(2)
	other.puts(0, 2)
	n.wantsBusy(0, true)
	other.wantsBusy(0, true)
	other.wantsUp(2, true)
	n.pass(api.MsgDone, 0, 0)
	n.wantsBusy(0, false)
	other.wantsBusy(0, true)
	other.wantsCalls(write(0, 7, 1, -1))
	before.wantsCalls(write(0, 7, 1, -1))
	twin.wantsCalls(write(0, 7, 1, 12))
}

// What a copy does later is what its net would do, and does not change it.
func TestP9_3CopyGoesOn(t *testing.T) {
	nets(t, 300, func(r *rand.Rand, w weather, n net) {
		for range r.IntN(100) {
			w.step(r, n).do(n.Net)
		}
		twin, before := n.twin(), n.twin()
		var steps []step
		for range 50 {
			s := w.step(r, twin)
			steps = append(steps, s)
			s.do(twin.Net)
		}
		if !isSame(n, before) {
			t.Fatalf("steps of a copy change its net: %v", steps)
		}
		for _, s := range steps {
			s.do(n.Net)
		}
		if !isSame(n, twin) {
			t.Fatalf("a copy and its net do not do the same by %v", steps)
		}
	})
}

// The clock counts what begins and what is delivered, and nothing else.
func TestP9_4Clock(t *testing.T) {
	n := newNet(t, 3)
	now := 0
	wantsNow := func(what string, ticks int) {
		t.Helper()
		now += ticks
		twin := n.twin()
		twin.dropAll()
		twin.Crash(2)
		twin.start(2)
		twin.read(2)
		calls := twin.Calls()
		if got := calls[len(calls)-1].Start; got != now+1 {
			t.Errorf("after %s the clock is at %d; want %d", what, got-1, now)
		}
	}
	wantsNow("nothing", 0)
	n.write(0, 7)
	wantsNow("Write", 1)
	n.read(1)
	wantsNow("Read", 1)
	if n.Write(0, 8) != api.ErrState || n.Read(9) != api.ErrArg || n.Deliver(6) != api.ErrRange {
		t.Error("no errors")
	}
	wantsNow("errors", 0)
	n.deliver(2)
	wantsNow("Deliver", 1)
	n.drop(0)
	n.repeat(0)
	wantsNow("Drop and Repeat", 0)
	n.crash(1)
	wantsNow("Crash", 0)
	n.deliver(slices.IndexFunc(n.Messages(), func(m api.Message) bool { return m.To == 1 }))
	wantsNow("Deliver to a post that is down", 1)
	n.start(1)
	wantsNow("Start", 0)
	count, _ := n.Settle(2)
	wantsNow("Settle", count)
	n.Messages()
	n.Calls()
	n.Kept(0)
	n.Busy(0)
	n.Copy().Settle(100)
	wantsNow("looks", 0)
	wantsNow("Settle", n.settle())
}

// Calls are in the order in which they began, each with its own times and value.
func TestP9_4Calls(t *testing.T) {
	n := newNet(t, 3)
	n.read(2)
	n.write(1, 5)
	n.write(0, 6)
	n.wantsCalls(read(2, 0, 1, -1), write(1, 5, 2, -1), write(0, 6, 3, -1))
	n.asks(0, 0, 1) // 4 to 7
	n.puts(0, 0, 1) // 8 to 11
	n.wantsCalls(read(2, 0, 1, -1), write(1, 5, 2, -1), write(0, 6, 3, 11))
	n.asks(2, 2, 0) // 12 to 15
	n.wantsCalls(read(2, 0, 1, -1), write(1, 5, 2, -1), write(0, 6, 3, 11))
	n.puts(2, 2, 1) // 16 to 19
	n.wantsCalls(read(2, 6, 1, 19), write(1, 5, 2, -1), write(0, 6, 3, 11))
	n.crash(1)
	n.read(0)
	n.settle()
	calls := n.Calls()
	if len(calls) != 4 || calls[1] != write(1, 5, 2, -1) || calls[3].Start != 20 || calls[3].Value != 6 {
		t.Errorf("%v", calls)
	}
}

func TestP9_4ManyCalls(t *testing.T) {
	n := newNet(t, 1)
	var want []api.Call
	for i := range 100 {
		if i%2 == 0 {
			n.write(0, 1+i)
			want = append(want, write(0, 1+i, 5*i+1, 5*i+5))
		} else {
			n.read(0)
			want = append(want, read(0, i, 5*i+1, 5*i+5))
		}
		n.settle()
	}
	n.wantsCalls(want...)
	before := n.twin()
	if n.Write(0, 1) != api.ErrFull || n.Read(0) != api.ErrFull || !isSame(n, before) {
		t.Error("a call more")
	}
	n.wantsKept(0, stamp(50, 0, 99), 99)
}
