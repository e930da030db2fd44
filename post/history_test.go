package post_test

import (
	"math"
	"math/rand/v2"
	"slices"
	"testing"

	"cocket/api"
	"cocket/post"
)

func TestExampleHistory(t *testing.T) {
	calls := []api.Call{write(0, 1, 1, 10), read(1, 1, 2, 3), read(2, 0, 4, 5)}
	wantsRegular(t, calls, -1)
	order, e := post.Atomic(calls)
	wantsNoOrder(t, "Atomic", order, e)
	order, e = post.Sequential(calls)
	wantsOrder(t, "Sequential", order, e, 2, 0, 1)
	calls[2].Post = 1
	wantsRegular(t, calls, -1)
	order, e = post.Sequential(calls)
	wantsNoOrder(t, "Sequential of one post", order, e)
}

// A history may be of any origin: all is right up to the limits.
func TestP9_5Limits(t *testing.T) {
	far := math.MaxInt
	for _, calls := range [][]api.Call{
		{},
		{read(4, 0, 0, far)},
		{write(4, 1000000, far-1, far), read(0, 1000000, far, -1)},
		{write(0, 0, 0, 1), read(0, 0, 2, 3)},
		{read(0, 1000000, far, -1), write(0, 1000000, far, -1)},
		{write(0, 1, 5, -1), read(0, 1, 5, 6), read(0, 1, 7, 8)},
		{read(0, 0, 7, 8), read(0, 0, 3, 6), read(0, 0, 1, 2)},
		slices.Repeat([]api.Call{write(3, 1, 1, -1)}, 10),
	} {
		for what, e := range historyErrors(calls) {
			if e != api.OK {
				t.Errorf("%s of %v: error %d", what, calls, e)
			}
		}
	}
}

// An order has all calls that have ended, and no reads that have not; writes that have not ended may be in it.
func TestP9_5Orders(t *testing.T) {
	calls := []api.Call{write(0, 1, 1, 10), read(1, 1, 2, 11), write(2, 2, 3, -1), read(3, 2, 4, -1), write(4, 3, 5, 12)}
	for _, order := range [][]int{{0, 1, 4}, {4, 0, 1}, {2, 0, 1, 4}, {0, 1, 2, 4}, {0, 1, 4, 2}, {4, 2, 0, 1}} {
		wantsExplains(t, true, calls, order...)
	}
	for _, order := range [][]int{
		nil, {0}, {0, 1}, {0, 4}, {1, 4}, // some are missing
		{0, 1, 4, 4}, {0, 0, 1, 4}, {0, 1, 1, 4}, {0, 1, 4, 0}, {2, 2, 0, 1, 4}, // some are there twice
		{0, 1, 4, 3}, {0, 1, 2, 3, 4}, {2, 3, 0, 1, 4}, {3, 0, 1, 4}, // a read that has not ended
		{0, 1, 4, 5}, {-1, 0, 1, 4}, {0, 1, 4, -1}, {5, 0, 1, 4}, {0, 1, 4, math.MaxInt}, {math.MinInt, 0, 1, 4}, {0, 1, 1 << 32, 4}, {0, 1, 64, 4}, {0, 1, 4 + 1<<32}, // no index
		{1, 0, 4}, {0, 4, 1}, {0, 2, 1, 4}, // these do not hold
	} {
		wantsExplains(t, false, calls, order...)
	}
	wantsExplains(t, true, calls[2:4])
	wantsExplains(t, true, calls[2:4], 0)
	wantsExplains(t, false, calls[2:4], 1)
	wantsExplains(t, true, nil)
	wantsExplains(t, false, nil, 0)
}

// 0 is what a read has before anything is written, and may be written too.
func TestP9_5Zero(t *testing.T) {
	calls := []api.Call{read(0, 0, 1, 20), write(1, 5, 1, 20), write(2, 0, 1, 20)}
	for _, order := range [][]int{{0, 1, 2}, {2, 0, 1}, {1, 2, 0}} {
		wantsExplains(t, true, calls, order...)
	}
	wantsExplains(t, false, calls, 1, 0, 2)
	wantsExplains(t, false, calls, 2, 1, 0)
	wantsExplains(t, false, []api.Call{read(0, 5, 1, 2)}, 0)
	wantsExplains(t, true, []api.Call{write(0, 0, 1, 2), read(0, 0, 3, 4)}, 0, 1)
}

// To the tick: a call that ended at 5 is before one that started at 6, and not before one that started at 5.
func TestP9_6Ticks(t *testing.T) {
	for _, c := range []struct {
		start  int
		before bool
	}{{4, false}, {5, false}, {6, true}, {7, true}} {
		calls := []api.Call{write(0, 1, c.start, 10), write(1, 2, 1, 5)}
		wantsExplains(t, !c.before, calls, 0, 1)
		wantsExplains(t, true, calls, 1, 0)
		order, e := post.Atomic(calls)
		if c.before {
			wantsOrder(t, "Atomic", order, e, 1, 0)
		} else {
			wantsOrder(t, "Atomic", order, e, 0, 1)
		}
		calls = append(calls, read(2, 2, 20, 30))
		order, e = post.Atomic(calls)
		if c.before {
			wantsNoOrder(t, "Atomic", order, e)
		} else {
			wantsOrder(t, "Atomic", order, e, 0, 1, 2)
		}
	}
}

func TestP9_6Explains(t *testing.T) {
	calls := []api.Call{write(0, 1, 1, 4), write(1, 2, 2, 6), read(2, 1, 5, 8), read(3, 2, 9, 10), read(4, 2, 3, 12)}
	wantsExplains(t, true, calls, 0, 2, 1, 3, 4)
	wantsExplains(t, true, calls, 0, 2, 1, 4, 3)
	wantsExplains(t, false, calls, 0, 1, 2, 3, 4) // 2 has not the last value
	wantsExplains(t, false, calls, 1, 0, 2, 3, 4) // nor has 3
	wantsExplains(t, false, calls, 0, 1, 4, 3, 2) // nor has 2, and it ended before 3
	wantsExplains(t, false, calls, 1, 3, 4, 0, 2) // 2 ended before 3
	order, e := post.Atomic(calls)
	wantsOrder(t, "Atomic", order, e, 0, 2, 1, 3, 4)
	apart := []api.Call{write(0, 1, 1, 4), read(2, 0, 5, 6), write(1, 2, 7, 8), read(0, 1, 9, 10)}
	order, e = post.Atomic(apart)
	wantsNoOrder(t, "Atomic of reads that are behind", order, e)
}

// A write that has not ended stands behind what ended before it started, or not at all.
func TestP9_6Pending(t *testing.T) {
	calls := []api.Call{write(0, 3, 5, -1), read(1, 0, 1, 4), read(2, 3, 6, 7), read(3, 3, 20, 21)}
	order, e := post.Atomic(calls)
	wantsOrder(t, "Atomic", order, e, 1, 0, 2, 3)
	wantsExplains(t, false, calls, 0, 1, 2, 3)
	wantsExplains(t, false, []api.Call{write(0, 3, 5, -1), write(1, 1, 1, 4)}, 0, 1)
	wantsExplains(t, true, []api.Call{write(0, 3, 4, -1), write(1, 1, 1, 4)}, 0, 1)
	calls[1].Value = 3
	order, e = post.Atomic(calls)
	wantsNoOrder(t, "Atomic of a read before the write", order, e)
	calls[1] = read(1, 0, 30, 31)
	order, e = post.Atomic(calls)
	wantsNoOrder(t, "Atomic of a read that forgets", order, e)
	calls[1] = read(1, 0, 1, 5)
	order, e = post.Atomic(calls)
	wantsOrder(t, "Atomic of a read that ends as the write starts", order, e, 1, 0, 2, 3)

	late := []api.Call{write(0, 1, 1, 2), write(1, 9, 3, -1), read(2, 1, 4, 5), read(3, 9, 6, 7), write(1, 2, 8, 9), read(3, 2, 10, 11), read(2, 2, 12, 13)}
	order, e = post.Atomic(late)
	wantsOrder(t, "Atomic of a write that took effect late", order, e, 0, 2, 1, 3, 4, 5, 6)
	late[6].Value = 9
	order, e = post.Atomic(late)
	wantsNoOrder(t, "Atomic of a write that took effect twice", order, e)
	late[3].Value = 1
	order, e = post.Atomic(late)
	wantsOrder(t, "Atomic of a write that took effect very late", order, e, 0, 2, 3, 4, 5, 1, 6)
}

// The least order has writes that have not ended wherever that makes it less, and ends as soon as it may.
func TestP9_6Least(t *testing.T) {
	order, e := post.Atomic(nil)
	wantsOrder(t, "Atomic of nothing", order, e)
	order, e = post.Atomic([]api.Call{write(0, 1, 1, -1), write(0, 2, 2, -1)})
	wantsOrder(t, "Atomic of two that have not ended", order, e)
	order, e = post.Atomic([]api.Call{write(0, 1, 1, -1), write(1, 2, 1, 5)})
	wantsOrder(t, "Atomic of one that has ended, and one before it", order, e, 0, 1)
	order, e = post.Atomic([]api.Call{write(1, 2, 1, 5), write(0, 1, 1, -1)})
	wantsOrder(t, "Atomic of one that has ended, and one behind it", order, e, 0)
	order, e = post.Atomic([]api.Call{write(0, 1, 1, -1), read(1, 0, 1, 5)})
	wantsOrder(t, "Atomic of a read that needs no write", order, e, 1)
	order, e = post.Atomic([]api.Call{write(0, 1, 1, -1), read(1, 0, 1, 5), write(2, 2, 1, 5), write(2, 3, 6, -1), write(2, 4, 6, -1)})
	wantsOrder(t, "Atomic of many that have not ended", order, e, 1, 0, 2)
	order, e = post.Atomic([]api.Call{write(0, 1, 6, -1), write(1, 3, 5, -1), write(2, 2, 1, 5)})
	wantsOrder(t, "Atomic of one that started too late to stand before", order, e, 1, 2)
	order, e = post.Atomic([]api.Call{read(0, 2, 1, 9), read(1, 1, 1, 9), write(2, 2, 1, 9), write(3, 1, 1, 9)})
	wantsOrder(t, "Atomic of reads that come first", order, e, 2, 0, 3, 1)
	order, e = post.Atomic([]api.Call{read(0, 0, 1, 9), write(1, 0, 1, 9), write(2, 1, 1, 9), read(3, 1, 1, 9)})
	wantsOrder(t, "Atomic of calls in order", order, e, 0, 1, 2, 3)
}

func TestP9_6Slow(t *testing.T) {
	none := 0
	histories(3000, short(), func(r *rand.Rand, calls []api.Call) {
		order, e := post.Atomic(calls)
		want, found := slowLeast(calls, endedBefore)
		if !slices.Equal(order, want) || found != (e == api.OK) || !found && e != api.ErrPlan {
			t.Fatalf("Atomic of %v: %v, error %d; want %v", calls, order, e, want)
		}
		if !found {
			none++
		}
		order = r.Perm(len(calls))
		if r.IntN(2) == 0 && len(calls) > 0 {
			order = order[:r.IntN(len(order)+1)]
		}
		for _, order := range [][]int{order, want} {
			got, e := post.Explains(calls, order)
			if want := slowExplains(calls, order); got != want || e != api.OK {
				t.Fatalf("Explains of %v by %v: %v, error %d; want %v", calls, order, got, e, want)
			}
		}
	})
	if none < 300 || none > 2700 {
		t.Errorf("%d of 3000 histories are not atomic", none)
	}
}

// Whatever the clocks of other posts; but a post's own calls stay in order.
func TestP9_7Sequential(t *testing.T) {
	calls := []api.Call{read(0, 5, 1, 2), write(1, 5, 10, 11), read(0, 5, 3, 4)}
	order, e := post.Sequential(calls)
	wantsOrder(t, "Sequential of a read of what comes later", order, e, 1, 0, 2)
	order, e = post.Atomic(calls)
	wantsNoOrder(t, "Atomic of a read of what comes later", order, e)
	calls[0].Value = 0
	order, e = post.Sequential(calls)
	wantsOrder(t, "Sequential of a read before it", order, e, 0, 1, 2)
	calls[0].Value, calls[2].Value = 5, 0
	order, e = post.Sequential(calls)
	wantsNoOrder(t, "Sequential of a read that forgets", order, e)
	calls[2].Post = 2
	order, e = post.Sequential(calls)
	wantsOrder(t, "Sequential of a read of another post", order, e, 2, 1, 0)
	order, e = post.Sequential([]api.Call{write(0, 2, 3, 4), write(0, 1, 1, 2), read(1, 1, 5, 6), read(1, 2, 7, 8)})
	wantsOrder(t, "Sequential by the Starts, not by the list", order, e, 1, 2, 0, 3)
	order, e = post.Sequential([]api.Call{write(0, 1, 1, 2), write(1, 2, 3, 4), read(2, 2, 5, 6), read(2, 1, 7, 8)})
	wantsOrder(t, "Sequential of writes in another order", order, e, 1, 2, 0, 3)
	order, e = post.Sequential([]api.Call{write(0, 1, 1, 2), write(0, 2, 3, 4), read(2, 2, 5, 6), read(2, 1, 7, 8)})
	wantsNoOrder(t, "Sequential of writes of one post", order, e)
}

// Writes that have not ended stand anywhere, or not at all: also before what their own post did before.
func TestP9_7Pending(t *testing.T) {
	calls := []api.Call{read(0, 7, 1, 2), write(0, 7, 5, -1), read(1, 0, 1, 2)}
	order, e := post.Sequential(calls)
	wantsOrder(t, "Sequential", order, e, 2, 1, 0)
	order, e = post.Atomic(calls)
	wantsNoOrder(t, "Atomic", order, e)
	wantsRegular(t, calls, 0)
	calls = []api.Call{write(0, 7, 1, -1), write(0, 8, 2, 3), read(0, 7, 4, 5), read(0, 7, 6, -1)}
	order, e = post.Sequential(calls)
	wantsOrder(t, "Sequential of a write that takes effect late", order, e, 1, 0, 2)
	order, e = post.Sequential([]api.Call{read(1, 0, 1, 2), write(0, 7, 1, -1)})
	wantsOrder(t, "Sequential without it", order, e, 0)
	order, e = post.Sequential([]api.Call{write(0, 7, 1, -1), write(0, 7, 2, -1), read(1, 7, 1, 2)})
	wantsOrder(t, "Sequential with both", order, e, 0, 1, 2)
	order, e = post.Sequential([]api.Call{write(0, 7, 9, -1), read(0, 7, 9, -1)})
	wantsOrder(t, "Sequential of what has not ended", order, e)
}

func TestP9_7SequentialSlow(t *testing.T) {
	none := 0
	histories(3001, short(), func(r *rand.Rand, calls []api.Call) {
		order, e := post.Sequential(calls)
		want, found := slowLeast(calls, earlierAtPost)
		if !slices.Equal(order, want) || found != (e == api.OK) || !found && e != api.ErrPlan {
			t.Fatalf("Sequential of %v: %v, error %d; want %v", calls, order, e, want)
		}
		if !found {
			none++
		}
	})
	if none < 200 {
		t.Errorf("%d of 3001 histories are not sequential", none)
	}
}

// What a read may have, to the tick.
func TestP9_7Regular(t *testing.T) {
	r := read(4, 1, 10, 20)
	for _, c := range []struct {
		bad   bool
		other []api.Call
	}{
		{true, nil},
		{false, []api.Call{write(0, 1, 1, 2)}},
		{false, []api.Call{write(0, 1, 20, 30)}}, // it starts as the read ends
		{true, []api.Call{write(0, 1, 21, 30)}},
		{false, []api.Call{write(0, 1, 20, -1)}},
		{true, []api.Call{write(0, 1, 21, -1)}},
		{true, []api.Call{write(0, 1, 1, 2), write(1, 2, 3, 9)}},
		{false, []api.Call{write(0, 1, 1, 2), write(1, 2, 3, 10)}}, // the other one has not ended as the read starts
		{false, []api.Call{write(0, 1, 1, 2), write(1, 2, 2, 9)}},  // it has started as the first one ends
		{false, []api.Call{write(0, 1, 1, 2), write(1, 2, 3, -1)}},
		{false, []api.Call{write(0, 1, 1, -1), write(1, 2, 3, 9)}}, // what has not ended can take effect late
		{false, []api.Call{write(0, 1, 1, 5), write(1, 2, 3, 9)}},
		{true, []api.Call{write(0, 1, 1, 2), write(1, 1, 21, 22), write(2, 2, 3, 9)}},
		{false, []api.Call{write(0, 1, 1, 2), write(1, 1, 15, 22), write(2, 2, 3, 9)}},
		{true, []api.Call{read(0, 1, 1, -1)}},
		{false, []api.Call{write(0, 1, 1, 2), read(1, 1, 3, 9)}},
		{false, []api.Call{write(0, 1, 1, 2), read(1, 2, 3, -1)}},
	} {
		for _, calls := range [][]api.Call{append(slices.Clone(c.other), r), append([]api.Call{r}, c.other...)} {
			bad := -1
			if c.bad {
				bad = slices.Index(calls, r)
			}
			wantsRegular(t, calls, bad)
		}
	}
}

// 0 is there until a write has ended, or if it is written.
func TestP9_7RegularZero(t *testing.T) {
	r := read(4, 0, 10, 20)
	wantsRegular(t, []api.Call{r}, -1)
	wantsRegular(t, []api.Call{write(0, 1, 1, 10), r}, -1)
	wantsRegular(t, []api.Call{write(0, 1, 1, 9), r}, 1)
	wantsRegular(t, []api.Call{write(0, 1, 1, -1), r}, -1)
	wantsRegular(t, []api.Call{write(0, 1, 1, 9), write(1, 0, 1, 5), r}, -1)
	wantsRegular(t, []api.Call{write(0, 1, 7, 9), write(1, 0, 1, 5), r}, 2)
	wantsRegular(t, []api.Call{write(0, 1, 7, 9), write(1, 0, 20, 25), r}, -1)
	wantsRegular(t, []api.Call{write(0, 1, 7, 9), write(1, 0, 21, 25), r}, 2)
	wantsRegular(t, []api.Call{write(0, 1, 1, -1), write(0, 2, 5, 9), r}, 2)
}

// The first bad read counts, in the order of the list; reads that have not ended are none.
func TestP9_7RegularFirst(t *testing.T) {
	wantsRegular(t, []api.Call{read(0, 9, 1, -1), read(1, 0, 1, 2), read(2, 8, 9, 10), read(3, 7, 1, 2)}, 2)
	wantsRegular(t, []api.Call{read(0, 9, 1, 2), read(3, 7, 1, 2)}, 0)
	wantsRegular(t, []api.Call{read(0, 9, 1, -1), write(1, 5, 1, 2)}, -1)
	wantsRegular(t, nil, -1)
}

func TestP9_7RegularSlow(t *testing.T) {
	bad := 0
	histories(20000, append(short(), long()...), func(r *rand.Rand, calls []api.Call) {
		want := slowRegular(calls)
		i, is, e := post.Regular(calls)
		if is != (want < 0) || i != max(want, 0) || e != api.OK {
			t.Fatalf("Regular of %v: %d, %v, error %d; want %d", calls, i, is, e, want)
		}
		if !is {
			bad++
		}
	})
	if bad < 1000 {
		t.Errorf("%d of 20000 histories are not regular", bad)
	}
}
