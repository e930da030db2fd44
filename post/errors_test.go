package post_test

import (
	"fmt"
	"math"
	"math/rand/v2"
	"runtime"
	"slices"
	"sync"
	"testing"
	"time"

	"cocket/api"
	"cocket/post"
)

// extremes are ints that are never within limits.
var extremes = []int{-1, math.MinInt, math.MaxInt, -1 << 32, 1 << 32, 1<<32 + 1}

func wantsError(t *testing.T, what string, e, want api.Errno) {
	t.Helper()
	if e != want {
		t.Errorf("%s: error %d; want %d", what, e, want)
	}
}

func TestP9_1BadNets(t *testing.T) {
	for _, posts := range append([]int{0, 6, 7, 100}, extremes...) {
		if n, e := post.New(posts); n != nil || e != api.ErrArg {
			t.Errorf("New(%d): %v, error %d", posts, n, e)
		}
	}
}

// Of a nil or zero net, ErrNil comes before all other errors.
func TestNilNets(t *testing.T) {
	for _, n := range []*post.Net{nil, {}, new(post.Net)} {
		for _, i := range append([]int{0, 1, 5}, extremes...) {
			for _, value := range append([]int{0, 1, 2000000}, extremes...) {
				wantsError(t, "Write", n.Write(i, value), api.ErrNil)
			}
			wantsError(t, "Read", n.Read(i), api.ErrNil)
			wantsError(t, "Deliver", n.Deliver(i), api.ErrNil)
			wantsError(t, "Drop", n.Drop(i), api.ErrNil)
			wantsError(t, "Repeat", n.Repeat(i), api.ErrNil)
			wantsError(t, "Crash", n.Crash(i), api.ErrNil)
			wantsError(t, "Start", n.Start(i), api.ErrNil)
			if count, e := n.Settle(i); count != 0 || e != api.ErrNil {
				t.Errorf("Settle: %d, error %d", count, e)
			}
			if s, value, e := n.Kept(i); s != (api.Stamp{}) || value != 0 || e != api.ErrNil {
				t.Errorf("Kept: %v, %d, error %d", s, value, e)
			}
			if busy, e := n.Busy(i); busy || e != api.ErrNil {
				t.Errorf("Busy: %v, error %d", busy, e)
			}
		}
		if n.Messages() != nil || n.Calls() != nil || n.Copy() != nil {
			t.Errorf("%v, %v, %v", n.Messages(), n.Calls(), n.Copy())
		}
	}
}

// busyNet is a net of 3 posts: 0 is busy, 1 is idle, 2 is down; what 1 keeps is not zero.
func busyNet(t *testing.T) net {
	t.Helper()
	n := newNet(t, 3)
	n.write(1, 9)
	n.settle()
	n.write(0, 7)
	n.asks(0, 0)
	n.crash(2)
	return n
}

func TestP9_1BadOperations(t *testing.T) {
	n := busyNet(t)
	before := n.twin()
	for _, at := range append([]int{3, 4, 5}, extremes...) {
		wantsError(t, "Read", n.Read(at), api.ErrArg)
		for _, value := range []int{1, 0, 1000001} {
			wantsError(t, "Write", n.Write(at, value), api.ErrArg)
		}
	}
	for _, value := range append([]int{0, 1000001}, extremes...) {
		for at := range 3 { // also of posts that are busy, or down
			wantsError(t, fmt.Sprint("Write of ", value), n.Write(at, value), api.ErrArg)
		}
	}
	for _, at := range []int{0, 2} {
		wantsError(t, "Read", n.Read(at), api.ErrState)
		wantsError(t, "Write", n.Write(at, 1), api.ErrState)
	}
	n.fill(500) // there is no room any more: the other errors come first
	full := n.twin()
	for _, at := range []int{0, 2} {
		wantsError(t, "Read", n.Read(at), api.ErrState)
		wantsError(t, "Write", n.Write(at, 1), api.ErrState)
		wantsError(t, "Write", n.Write(at, 0), api.ErrArg)
	}
	wantsError(t, "Write", n.Write(1, 0), api.ErrArg)
	wantsError(t, "Read", n.Read(3), api.ErrArg)
	wantsError(t, "Read", n.Read(1), api.ErrFull)
	wantsError(t, "Write", n.Write(1, 1), api.ErrFull)
	if !isSame(n, full) {
		t.Error("errors change the net")
	}
	for range 500 - len(before.Messages()) {
		n.drop(len(n.Messages()) - 1)
	}
	if !isSame(n, before) {
		t.Error("errors change the net")
	}
}

func TestP9_2BadMessages(t *testing.T) {
	empty := newNet(t, 2)
	n := busyNet(t)
	before, emptyBefore := n.twin(), empty.twin()
	count := len(n.Messages())
	for _, i := range append([]int{count, count + 1, 500}, extremes...) {
		for _, n := range []net{n, empty} {
			wantsError(t, "Deliver", n.Deliver(i), api.ErrRange)
			wantsError(t, "Drop", n.Drop(i), api.ErrRange)
			wantsError(t, "Repeat", n.Repeat(i), api.ErrRange)
		}
	}
	wantsError(t, "Deliver", empty.Deliver(0), api.ErrRange)
	wantsError(t, "Drop", empty.Drop(0), api.ErrRange)
	wantsError(t, "Repeat", empty.Repeat(0), api.ErrRange)
	if !isSame(n, before) || !isSame(empty, emptyBefore) {
		t.Error("errors change the net")
	}
	n.fill(500)
	before = n.twin()
	for _, i := range append([]int{500}, extremes...) {
		wantsError(t, "Repeat", n.Repeat(i), api.ErrRange)
	}
	for i := range 500 {
		wantsError(t, "Repeat", n.Repeat(i), api.ErrFull)
	}
	if !isSame(n, before) {
		t.Error("errors change the net")
	}
}

func TestP9_3BadPosts(t *testing.T) {
	n := busyNet(t)
	before := n.twin()
	for _, at := range append([]int{3, 4, 5}, extremes...) {
		wantsError(t, "Crash", n.Crash(at), api.ErrArg)
		wantsError(t, "Start", n.Start(at), api.ErrArg)
		if s, value, e := n.Kept(at); s != (api.Stamp{}) || value != 0 || e != api.ErrArg {
			t.Errorf("Kept(%d): %v, %d, error %d", at, s, value, e)
		}
		if busy, e := n.Busy(at); busy || e != api.ErrArg {
			t.Errorf("Busy(%d): %v, error %d", at, busy, e)
		}
	}
	wantsError(t, "Crash", n.Crash(2), api.ErrState)
	wantsError(t, "Start", n.Start(0), api.ErrState)
	wantsError(t, "Start", n.Start(1), api.ErrState)
	for _, limit := range append([]int{100001}, extremes...) {
		if count, e := n.Settle(limit); count != 0 || e != api.ErrArg {
			t.Errorf("Settle(%d): %d, error %d", limit, count, e)
		}
	}
	if !isSame(n, before) {
		t.Error("errors change the net")
	}
	n.wantsKept(2, stamp(1, 1, 1), 9) // also of a post that is down
	n.wantsBusy(2, false)
	n.crash(0)
	n.start(0)
	n.start(2)
	n.settle()
}

// historyErrors are the errors of all functions that look at a history; ErrPlan is none.
func historyErrors(calls []api.Call, order ...int) map[string]api.Errno {
	_, atomic := post.Atomic(calls)
	_, explains := post.Explains(calls, order)
	_, sequential := post.Sequential(calls)
	_, _, regular := post.Regular(calls)
	all := map[string]api.Errno{"Atomic": atomic, "Explains": explains, "Sequential": sequential, "Regular": regular}
	for what, e := range all {
		if e == api.ErrPlan && (what == "Atomic" || what == "Sequential") {
			all[what] = api.OK
		}
	}
	return all
}

// wantsHistoryError fails if one of these functions does not return this error, and zero values beside it.
func wantsHistoryError(t *testing.T, calls []api.Call, want api.Errno) {
	t.Helper()
	for _, order := range [][]int{nil, {0}, {-1}, make([]int, 20)} {
		if is, e := post.Explains(calls, order); is || e != want {
			t.Errorf("Explains of %d calls %v by %v: %v, error %d; want %d", len(calls), calls[:min(3, len(calls))], order, is, e, want)
		}
	}
	if order, e := post.Atomic(calls); len(order) > 0 || e != want {
		t.Errorf("Atomic of %d calls %v: %v, error %d; want %d", len(calls), calls[:min(3, len(calls))], order, e, want)
	}
	if order, e := post.Sequential(calls); len(order) > 0 || e != want {
		t.Errorf("Sequential of %d calls %v: %v, error %d; want %d", len(calls), calls[:min(3, len(calls))], order, e, want)
	}
	if i, is, e := post.Regular(calls); i != 0 || is || e != want {
		t.Errorf("Regular of %d calls %v: %d, %v, error %d; want %d", len(calls), calls[:min(3, len(calls))], i, is, e, want)
	}
}

// The calls are counted before what is in them.
func TestP9_5TooManyCalls(t *testing.T) {
	for _, count := range []int{11, 12, 64, 65, 1 << 20} {
		for _, c := range []api.Call{write(0, 1, 1, -1), read(0, 0, 1, 2), write(-1, 1, 1, 2), {}} {
			wantsHistoryError(t, slices.Repeat([]api.Call{c}, count), api.ErrLimit)
		}
	}
}

func badCalls() []api.Call {
	list := []api.Call{write(5, 1, 1, 2), read(5, 1, 1, 2), write(0, 1000001, 1, 2), read(0, 1000001, 1, 2), read(0, 1000001, 1, -1), write(0, 1, 1, 1), write(0, 1, 2, 1), read(0, 0, 5, 0), read(0, 0, 0, 0), read(0, 0, 1, -2), {}}
	for _, n := range extremes {
		list = append(list, write(n, 1, 1, 2), read(0, n, 1, 2), write(0, n, 1, -1))
		if n < 0 {
			list = append(list, write(0, 1, n, 2), write(0, 1, n, -1), read(0, 0, n, n))
		}
		if n < -1 {
			list = append(list, write(0, 1, 5, n))
		}
	}
	return append(list, read(0, 0, math.MaxInt, math.MaxInt), read(0, 0, math.MaxInt, math.MinInt))
}

func TestP9_5BadCalls(t *testing.T) {
	good := write(3, 1, 1, 2)
	for _, bad := range badCalls() {
		for _, calls := range [][]api.Call{{bad}, {good, bad}, {bad, good}} {
			wantsHistoryError(t, calls, api.ErrArg)
		}
		others := []api.Call{}
		for i := range 9 {
			others = append(others, write(4, 1, 3*i, 3*i+1))
		}
		wantsHistoryError(t, append(others, bad), api.ErrArg)
	}
}

// To the tick, and in both orders of the list: what overlaps, and what does not.
func TestP9_5Overlaps(t *testing.T) {
	for _, c := range []struct {
		a, b       api.Call
		bad, other bool // with b behind a in the list, and before it
	}{
		{write(0, 1, 1, 5), write(0, 2, 6, 9), false, false},
		{write(0, 1, 1, 5), write(0, 2, 5, 9), true, true},
		{write(0, 1, 1, 5), write(0, 2, 4, 9), true, true},
		{write(0, 1, 1, 5), read(0, 1, 4, -1), true, true},
		{write(0, 1, 1, 5), read(0, 1, 6, -1), false, false},
		{write(0, 1, 1, 9), read(0, 1, 3, 4), true, true},
		{read(0, 0, 1, -1), read(0, 0, 1, -1), false, false},
		{read(0, 0, 1, -1), read(0, 0, 1, 2), false, true},
		{read(0, 0, 1, 2), read(0, 0, 1, 3), true, true},
		{read(0, 0, 1, 2), read(0, 0, 1, 2), true, true},
		{read(0, 0, 0, -1), write(0, 1, 5, -1), false, false},
		{read(0, 0, 3, -1), write(0, 1, 5, 7), false, false},
		{read(0, 0, 6, -1), write(0, 1, 5, 7), true, true},
		{read(0, 0, 7, -1), write(0, 1, 5, 7), true, true},
		{read(0, 0, 8, -1), write(0, 1, 5, 7), false, false},
	} {
		for _, bad := range []bool{c.bad, c.other} {
			calls := []api.Call{c.a, c.b}
			apart := []api.Call{c.a, c.b}
			apart[1].Post = 1
			between := []api.Call{c.a, write(2, 1, 1, 9), c.b}
			for _, list := range [][]api.Call{calls, between} {
				if bad {
					wantsHistoryError(t, list, api.ErrArg)
				}
				for what, e := range historyErrors(list) {
					if (e == api.ErrArg) != bad {
						t.Errorf("%s of %v: error %d", what, list, e)
					}
				}
			}
			for what, e := range historyErrors(apart) {
				wantsError(t, what, e, api.OK)
			}
			c.a, c.b = c.b, c.a
		}
	}
}

func TestP9_5ErrorsSlow(t *testing.T) {
	r := rand.New(rand.NewPCG(9, 5))
	bad := 0
	for range 30000 {
		var calls []api.Call
		for range r.IntN(5) {
			c := api.Call{Post: r.IntN(5), Write: r.IntN(2) == 0, Value: r.IntN(3), Start: r.IntN(12)}
			c.End = c.Start + 1 + r.IntN(4)
			if r.IntN(3) == 0 {
				c.End = -1
			}
			if r.IntN(30) == 0 {
				c.End = r.IntN(5) - 2
			}
			calls = append(calls, c)
		}
		want := api.OK
		if !isSlowHistory(calls) {
			want = api.ErrArg
			bad++
		}
		for what, e := range historyErrors(calls) {
			if e != want {
				t.Fatalf("%s of %v: error %d; want %d", what, calls, e, want)
			}
		}
	}
	if bad < 1000 || bad > 29000 {
		t.Errorf("%d of 30000 have an error", bad)
	}
}

// With an error every other result is its zero value.
func TestZeroWithErrors(t *testing.T) {
	none := 0
	histories(2000, short(), func(r *rand.Rand, calls []api.Call) {
		for _, find := range []func([]api.Call) ([]int, api.Errno){post.Atomic, post.Sequential} {
			if order, e := find(calls); e == api.ErrPlan {
				none++
				if len(order) > 0 {
					t.Fatalf("%v beside an error, of %v", order, calls)
				}
			}
		}
		if i, is, _ := post.Regular(calls); is && i != 0 {
			t.Fatalf("Regular of %v: %d, and true", calls, i)
		}
	})
	if none == 0 {
		t.Error("no errors")
	}
}

// hardest are histories with the most orders to try: all at once, of as many values or of few.
func hardest() [][]api.Call {
	var list [][]api.Call
	for values := 1; values <= 10; values++ {
		for reads := range 10 {
			for _, end := range []int{100, -1} {
				var calls []api.Call
				for i := range 10 {
					if i < reads {
						calls = append(calls, read(i%5, i%(values+1), i, 100))
					} else {
						calls = append(calls, write(i%5, 1+i%values, i, end))
					}
				}
				for i := range calls { // calls of one post must not overlap: those that are late have not ended, or are late
					if i >= 5 {
						calls[i].Start += 200
						if calls[i].End > 0 {
							calls[i].End += 200
						}
					}
				}
				calls[9] = read(4, 999, 250, 300)
				list = append(list, calls)
			}
		}
	}
	var pending []api.Call
	for i := range 9 {
		pending = append(pending, write(0, 1+i, i, -1))
	}
	for _, value := range []int{999, 9, 1, 0} {
		list = append(list, slices.Concat(pending, []api.Call{read(1, value, 20, 30)}))
	}
	return list
}

func TestP1MostWork(t *testing.T) {
	for _, calls := range hardest() {
		within(t, "a history", 20*time.Second, func() {
			for what, e := range historyErrors(calls) {
				if e != api.OK {
					t.Errorf("%s of %v: error %d", what, calls, e)
				}
			}
		})
	}
	within(t, "a long order", 20*time.Second, func() {
		wantsExplains(t, false, []api.Call{write(0, 1, 1, 2)}, make([]int, 1<<22)...)
		if is, e := post.Explains([]api.Call{write(0, 1, 1, 2)}, slices.Repeat([]int{7}, 1<<22)); is || e != api.OK {
			t.Errorf("a long order: %v, error %d", is, e)
		}
	})
	within(t, "a net with the most messages", 20*time.Second, func() {
		n := newNet(t, 5)
		for at := range 5 {
			n.write(at, 1)
		}
		n.fill(500)
		n.settle()
	})
}

// Nothing goes on after a call has returned.
func TestP1NothingGoesOn(t *testing.T) {
	before := runtime.NumGoroutine()
	for _, calls := range hardest() {
		historyErrors(calls)
	}
	for tries := 0; runtime.NumGoroutine() > before; tries++ {
		if tries == 100 {
			t.Fatalf("%d goroutines, and then %d", before, runtime.NumGoroutine())
		}
		time.Sleep(10 * time.Millisecond)
	}
}

func TestP1AnyArguments(t *testing.T) {
	r := rand.New(rand.NewPCG(9, 1))
	numbers := []int{0, 0, 1, 1, 2, 2, 3, 4, 5, 6, 10, 100, 500, 501, 1000000, 1000001, 100000, 100001, -1, -2, math.MaxInt, math.MaxInt - 1, math.MinInt}
	number := func() int { return numbers[r.IntN(len(numbers))] }
	for range 20000 {
		var calls []api.Call
		for range r.IntN(4) {
			calls = append(calls, api.Call{Post: number(), Write: r.IntN(2) == 0, Value: number(), Start: number(), End: number()})
		}
		historyErrors(calls, number(), number())
	}
	for range 300 {
		n, e := post.New(number())
		if e != api.OK {
			continue
		}
		names := []string{"Write", "Read", "Deliver", "Drop", "Repeat", "Crash", "Start", "Settle"}
		for range 100 {
			step{names[r.IntN(len(names))], []int{number(), number()}}.do(n)
			n.Kept(number())
			n.Busy(number())
			n.Messages()
			n.Calls()
			n.Copy()
		}
	}
}

func results(calls []api.Call) string {
	a, b := post.Atomic(calls)
	c, d := post.Sequential(calls)
	e, f, g := post.Regular(calls)
	h, i := post.Explains(calls, a)
	return fmt.Sprint(a, b, c, d, e, f, g, h, i)
}

func TestP2OnlyArguments(t *testing.T) {
	histories(600, append(short(), long()...), func(r *rand.Rand, calls []api.Call) {
		want := results(calls)
		got := make([]string, 8)
		var all sync.WaitGroup
		for i := range got {
			all.Go(func() { got[i] = results(calls) })
		}
		all.Wait()
		for _, again := range got {
			if again != want {
				t.Fatalf("of %v: %s, and then %s", calls, want, again)
			}
		}
	})
}

// A net does what was done with it, whatever is done with other nets.
func TestP2OnlyCallsBefore(t *testing.T) {
	nets(t, 60, func(r *rand.Rand, w weather, n net) {
		var steps []step
		for range 100 {
			s := w.step(r, n)
			steps = append(steps, s)
			s.do(n.Net)
		}
		first, second := newNet(t, n.n), newNet(t, n.n)
		for _, s := range steps {
			a, aError := s.do(first.Net)
			first.Copy().Settle(20)
			b, bError := s.do(second.Net)
			if a != b || aError != bError {
				t.Fatalf("%v: %d, error %d, and %d, error %d", s, a, aError, b, bError)
			}
		}
		if !isSame(first, n) || !isSame(second, n) {
			t.Fatalf("%v make different nets", steps)
		}
	})
}

func TestArgumentsStay(t *testing.T) {
	histories(500, append(short(), long()...), func(r *rand.Rand, calls []api.Call) {
		before := slices.Clone(calls)
		order := r.Perm(len(calls))
		orderBefore := slices.Clone(order)
		results(calls)
		post.Explains(calls, order)
		if !slices.Equal(calls, before) || !slices.Equal(order, orderBefore) {
			t.Fatalf("%v by %v were %v by %v", calls, order, before, orderBefore)
		}
	})
}

// Results are new memory: what is written into one changes neither another one nor the net.
func TestResultsAreNew(t *testing.T) {
	n := busyNet(t)
	before, twin := n.twin(), n.twin()
	for range 2 {
		messages, calls := n.Messages(), n.Calls()
		clear(messages)
		clear(calls)
		_ = append(messages[:0], ask(1, 1, 1), ask(1, 1, 1))
		_ = append(calls[:0], write(4, 4, 4, 4))
		_ = append(n.Messages(), ask(2, 2, 2))
		_ = append(n.Calls(), write(2, 2, 2, 2))
		if !isSame(n, before) || !isSame(twin, before) {
			t.Fatal("what is written into results changes a net")
		}
	}
	n.read(1)
	n.settle()
	if !isSame(twin, before) {
		t.Error("what a net does changes a copy")
	}
	calls := []api.Call{write(0, 1, 1, 2), read(0, 1, 3, 4)}
	for _, find := range []func([]api.Call) ([]int, api.Errno){post.Atomic, post.Sequential} {
		order, _ := find(calls)
		clear(order)
		again, e := find(calls)
		wantsOrder(t, "after another order was cleared", again, e, 0, 1)
	}
}

// Lists that were returned stay as they are, whatever the net does then.
func TestResultsStay(t *testing.T) {
	nets(t, 100, func(r *rand.Rand, w weather, n net) {
		for range 60 {
			messages, calls := n.Messages(), n.Calls()
			messagesBefore, callsBefore := slices.Clone(messages), slices.Clone(calls)
			w.step(r, n).do(n.Net)
			w.step(r, n).do(n.Net)
			if !slices.Equal(messages, messagesBefore) || !slices.Equal(calls, callsBefore) {
				t.Fatal("a step changes what was returned before it")
			}
		}
	})
}
