package post_test

import (
	"math/rand/v2"
	"slices"
	"testing"

	"cocket/api"
	"cocket/post"
)

// fewCalls lets things happen to a net until it has a few calls, and one more step would be too many.
func fewCalls(r *rand.Rand, w weather, n net, calls, steps int) {
	for range steps {
		s := w.step(r, n)
		if (s.name == "Read" || s.name == "Write") && len(n.Calls()) >= calls {
			continue
		}
		s.do(n.Net)
	}
}

// wantsAtomic fails if the calls have no order, or the order that Atomic finds does not explain them.
func wantsAtomic(t *testing.T, calls []api.Call) []int {
	t.Helper()
	order, e := post.Atomic(calls)
	if e != api.OK || !slowExplains(calls, order) {
		t.Fatalf("Atomic of %v: %v, error %d", calls, order, e)
	}
	if is, e := post.Explains(calls, order); !is || e != api.OK {
		t.Fatalf("Explains of %v by %v: %v, error %d", calls, order, is, e)
	}
	return order
}

func TestP9_8Nets(t *testing.T) {
	reads, writes, lost, late := 0, 0, 0, 0
	nets(t, 3000, func(r *rand.Rand, w weather, n net) {
		fewCalls(r, w, n, api.MaxHistory, 60+r.IntN(200))
		calls := n.Calls()
		order := wantsAtomic(t, calls)
		for i, c := range calls {
			switch {
			case c.End < 0 && c.Write && slices.Contains(order, i):
				late++
			case c.End < 0:
				lost++
			case c.Write:
				writes++
			case c.Value > 0:
				reads++
			}
		}
	})
	for what, count := range map[string]int{"reads": reads, "writes": writes, "calls that have not ended": lost, "writes that have not ended, in the order": late} {
		if count < 500 {
			t.Errorf("only %d %s", count, what)
		}
	}
}

// What the calls of a net with many of them show, the last of them show too, if what they read was written among them.
func TestP9_8TwoReads(t *testing.T) {
	n := newNet(t, 3)
	n.write(0, 7)
	n.asks(0, 0, 1)
	n.puts(0, 0) // a minority has it
	n.read(1)
	n.asks(1, 0, 1)
	n.puts(1, 1, 2) // now a majority has it, before the read ends
	n.crash(0)
	n.dropAll()
	n.read(2)
	n.settle()
	calls := n.Calls()
	if len(calls) != 3 || calls[1].Value != 7 || calls[2].Value != 7 || calls[2].End < 0 {
		t.Errorf("%v", calls)
	}
	wantsAtomic(t, calls)
}

// A read ends only after a majority has what it returns: or a later one would not find it.
func TestP9_8ReadPuts(t *testing.T) {
	n := newNet(t, 3)
	n.write(0, 7)
	n.asks(0, 0, 1)
	n.pass(api.MsgPut, 0, 0)
	n.read(1)
	n.asks(1, 0, 1)
	n.wantsBusy(1, true)
	n.read(2)
	n.asks(2, 1, 2)
	n.puts(2, 1, 2)
	n.wantsBusy(2, false)
	if c := n.Calls()[2]; c.Value != 0 {
		t.Errorf("%v", c)
	}
	n.puts(1, 1, 2)
	n.wantsBusy(1, false)
	wantsAtomic(t, n.Calls())
}

// kept is what all posts keep.
func kept(n net) (stamps []api.Stamp, values []int) {
	n.t.Helper()
	for at := range n.n {
		s, value, e := n.Kept(at)
		n.must("Kept", e)
		stamps, values = append(stamps, s), append(values, value)
	}
	return stamps, values
}

func TestP9_9Stamps(t *testing.T) {
	grown, same := 0, 0
	nets(t, 400, func(r *rand.Rand, w weather, n net) {
		valueOf := map[api.Stamp]int{{}: 0}
		before, valuesBefore := kept(n)
		for range 150 {
			s := w.step(r, n)
			s.do(n.Net)
			after, values := kept(n)
			if (s.name == "Crash" || s.name == "Start") && (!slices.Equal(before, after) || !slices.Equal(valuesBefore, values)) {
				t.Fatalf("%v changes %v %v into %v %v", s, before, valuesBefore, after, values)
			}
			for at := range after {
				if isStampGreater(before[at], after[at]) {
					t.Fatalf("%v: post %d kept %v, and then %v", s, at, before[at], after[at])
				}
				if value, is := valueOf[after[at]]; is && value != values[at] {
					t.Fatalf("%v: %v has the values %d and %d", s, after[at], value, values[at])
				}
				valueOf[after[at]] = values[at]
				if isStampGreater(after[at], before[at]) {
					grown++
				} else if after[at].No > 0 {
					same++
				}
			}
			before, valuesBefore = after, values
		}
	})
	if grown < 1000 || same < 1000 {
		t.Errorf("%d have grown, %d have stayed", grown, same)
	}
}

// No two writes ever have the same stamp, even if a crash ended one before anybody kept it.
func TestP9_9StampsOfWrites(t *testing.T) {
	nets(t, 300, func(r *rand.Rand, w weather, n net) {
		valueOf := map[api.Stamp]int{}
		value := 0
		for range 200 {
			s := w.step(r, n)
			if s.name == "Write" && s.arguments[1] > 0 {
				value++
				s.arguments[1] = value // each write has a value of its own
			}
			s.do(n.Net)
			for _, m := range n.Messages() {
				if m.Kind != api.MsgPut {
					continue
				}
				if known, is := valueOf[m.Stamp]; is && known != m.Value {
					t.Fatalf("%v has the values %d and %d", m.Stamp, known, m.Value)
				}
				valueOf[m.Stamp] = m.Value
			}
		}
	})
}

// upPosts returns the posts that are up.
func upPosts(n net) []int {
	var list []int
	for at := range n.n {
		if n.Copy().Crash(at) == api.OK {
			list = append(list, at)
		}
	}
	return list
}

func TestP9_10ItGoesOn(t *testing.T) {
	minorities, majorities := 0, 0
	nets(t, 3000, func(r *rand.Rand, w weather, n net) {
		for range r.IntN(150) {
			w.step(r, n).do(n.Net)
		}
		for count := len(n.Messages()); count > 0 && count < 300 && r.IntN(50) > 0; count++ {
			n.repeat(r.IntN(count))
		}
		for len(n.Messages()) > 300 {
			n.drop(r.IntN(len(n.Messages())))
		}
		up := upPosts(n)
		if len(up) == 0 {
			return
		}
		at := up[r.IntN(len(up))]
		if busy, _ := n.Busy(at); busy || len(n.Calls()) == api.MaxCalls {
			return
		}
		if r.IntN(2) == 0 {
			n.read(at)
		} else {
			n.write(at, 1+r.IntN(9))
		}
		n.settle()
		n.wantsBusy(at, 2*len(up) <= n.n)
		last := n.Calls()[len(n.Calls())-1]
		if (last.End > last.Start) != (2*len(up) > n.n) {
			t.Fatalf("%d of %d posts are up: %v", len(up), n.n, last)
		}
		if 2*len(up) > n.n {
			majorities++
		} else {
			minorities++
		}
	})
	if majorities < 500 || minorities < 100 {
		t.Errorf("%d majorities, %d minorities", majorities, minorities)
	}
}

// 300 messages do not keep an operation from its end, whatever they are.
func TestP9_10ManyMessages(t *testing.T) {
	for posts := 1; posts <= 5; posts++ {
		for first := range posts {
			n := newNet(t, posts)
			for at := range posts {
				n.write(at, 10+at)
				n.pass(api.MsgAsk, at, first)
				n.pass(api.MsgTell, first, at)
			}
			for count := range 8 {
				twin := n.twin()
				if posts > 1 {
					twin.Settle(count)
				}
				for at := range posts/2 + 1 { // a crash ends its operation, so that it can begin another one
					twin.Crash(at)
					twin.start(at)
				}
				if len(twin.Messages()) > 0 {
					twin.fill(300)
				}
				twin.write(0, 7)
				twin.settle()
				twin.wantsBusy(0, false)
				if c := twin.Calls()[posts]; c.End < 0 {
					t.Errorf("%v", c)
				}
			}
		}
	}
}

// isSequential says whether an order holds and has the ended calls of each post in their order.
func isSequential(calls []api.Call, order []int) bool {
	return holds(calls, order) && standsRight(calls, order, earlierAtPost)
}

// holdsSoFar says whether the beginning of an order breaks nothing yet.
func holdsSoFar(calls []api.Call, order []int, isBefore func(a, b api.Call) bool) bool {
	last := order[len(order)-1]
	if !calls[last].Write {
		value := 0
		for _, i := range order {
			if calls[i].Write {
				value = calls[i].Value
			}
		}
		if calls[last].End == -1 || calls[last].Value != value {
			return false
		}
	}
	for i, c := range calls {
		if !slices.Contains(order, i) && isBefore(c, calls[last]) {
			return false
		}
	}
	return true
}

// prunedLeast is slowLeast for more calls: it leaves a beginning as soon as that breaks something.
func prunedLeast(calls []api.Call, isBefore func(a, b api.Call) bool, isOrder func([]api.Call, []int) bool) ([]int, bool) {
	var found []int
	var from func(order []int) bool
	from = func(order []int) bool {
		if isOrder(calls, order) {
			found = order
			return true
		}
		for i := range calls {
			longer := append(slices.Clone(order), i)
			if !slices.Contains(order, i) && holdsSoFar(calls, longer, isBefore) && from(longer) {
				return true
			}
		}
		return false
	}
	return found, from(nil)
}

func TestP9_11LongHistories(t *testing.T) {
	none := 0
	histories(600, []life{{10, 6, 4}, {10, 12, 2}, {10, 30, 5}}, func(r *rand.Rand, calls []api.Call) {
		order, e := post.Atomic(calls)
		want, found := prunedLeast(calls, endedBefore, slowExplains)
		if !slices.Equal(order, want) || found != (e == api.OK) {
			t.Fatalf("Atomic of %v: %v, error %d; want %v", calls, order, e, want)
		}
		if !found {
			none++
		}
		order, e = post.Sequential(calls)
		want, found = prunedLeast(calls, earlierAtPost, isSequential)
		if !slices.Equal(order, want) || found != (e == api.OK) {
			t.Fatalf("Sequential of %v: %v, error %d; want %v", calls, order, e, want)
		}
	})
	if none < 60 || none > 540 {
		t.Errorf("%d of 600 histories are not atomic", none)
	}
}

// What is atomic is sequential and regular; and each may be so without the one before.
func TestP9_11Histories(t *testing.T) {
	counts := map[[3]bool]int{}
	histories(20000, append(short(), long()...), func(r *rand.Rand, calls []api.Call) {
		order, e := post.Atomic(calls)
		isAtomic := e == api.OK
		if isAtomic {
			if is, e := post.Explains(calls, order); !is || e != api.OK || !slowExplains(calls, order) {
				t.Fatalf("Explains of %v by %v: %v, error %d", calls, order, is, e)
			}
		}
		order, e = post.Sequential(calls)
		isSeq := e == api.OK
		if isSeq && !isSequential(calls, order) {
			t.Fatalf("Sequential of %v: %v", calls, order)
		}
		_, isRegular, _ := post.Regular(calls)
		if isAtomic && (!isSeq || !isRegular) {
			t.Fatalf("%v are atomic, but sequential: %v, regular: %v", calls, isSeq, isRegular)
		}
		counts[[3]bool{isAtomic, isSeq, isRegular}]++
		for range 3 {
			if is, _ := post.Explains(calls, r.Perm(len(calls))); is && !isAtomic {
				t.Fatalf("an order explains %v, but Atomic finds none", calls)
			}
		}
	})
	for _, kind := range [][3]bool{{true, true, true}, {false, true, true}, {false, true, false}, {false, false, true}, {false, false, false}} {
		if counts[kind] < 20 {
			t.Errorf("only %d histories are atomic, sequential, regular: %v", counts[kind], kind)
		}
	}
}

// wantsFewer fails if calls that are atomic are not without one that can be left out.
func wantsFewer(t *testing.T, calls []api.Call) (left int) {
	t.Helper()
	isRead := func(value int) bool {
		return slices.ContainsFunc(calls, func(c api.Call) bool { return !c.Write && c.Value == value })
	}
	for i, c := range calls {
		if c.Write && (c.End != -1 || isRead(c.Value)) {
			continue
		}
		left++
		fewer := slices.Delete(slices.Clone(calls), i, i+1)
		if order, e := post.Atomic(fewer); e != api.OK {
			t.Fatalf("%v are atomic, but not without %v: %v, error %d", calls, c, order, e)
		}
		if _, e := post.Sequential(fewer); e != api.OK {
			t.Fatalf("%v are atomic, but not sequential without %v: error %d", calls, c, e)
		}
	}
	return left
}

func TestP9_12FewerCalls(t *testing.T) {
	left := 0
	histories(4000, append(short(), long()...), func(r *rand.Rand, calls []api.Call) {
		if _, e := post.Atomic(calls); e == api.OK {
			left += wantsFewer(t, calls)
		}
	})
	nets(t, 400, func(r *rand.Rand, w weather, n net) {
		fewCalls(r, w, n, api.MaxHistory, 200)
		left += wantsFewer(t, n.Calls())
	})
	if left < 2000 {
		t.Errorf("%d calls are left out", left)
	}
}

// A write that a read has cannot be left out, and one that has ended neither.
func TestP9_12NotFewer(t *testing.T) {
	calls := []api.Call{write(0, 1, 1, 2), write(1, 2, 3, -1), read(2, 2, 4, 5), write(0, 3, 6, 7), read(2, 3, 8, 9)}
	wantsAtomic(t, calls)
	for i, want := range []api.Errno{api.OK, api.ErrPlan, api.OK, api.ErrPlan, api.OK} {
		if _, e := post.Atomic(slices.Delete(slices.Clone(calls), i, i+1)); e != want {
			t.Errorf("Atomic without %v: error %d; want %d", calls[i], e, want)
		}
	}
}
