package post_test

import (
	"math/rand/v2"
	"slices"
	"testing"
	"time"

	"cocket/api"
	"cocket/post"
)

// The tests call the package only as its users do, and hold it against slow answers of their own (slow_test.go).

// net is a net of n posts whose steps fail the test if they return an error.
type net struct {
	*post.Net
	t *testing.T
	n int
}

func newNet(t *testing.T, n int) net {
	t.Helper()
	made, e := post.New(n)
	if made == nil || e != api.OK {
		t.Fatalf("New(%d): error %d", n, e)
	}
	return net{made, t, n}
}

func (n net) twin() net {
	return net{n.Copy(), n.t, n.n}
}

func (n net) must(what string, e api.Errno) {
	n.t.Helper()
	if e != api.OK {
		n.t.Fatalf("%s: error %d", what, e)
	}
}

func (n net) write(post, value int) {
	n.t.Helper()
	n.must("Write", n.Write(post, value))
}

func (n net) read(post int) {
	n.t.Helper()
	n.must("Read", n.Read(post))
}

func (n net) crash(post int) {
	n.t.Helper()
	n.must("Crash", n.Crash(post))
}

func (n net) start(post int) {
	n.t.Helper()
	n.must("Start", n.Start(post))
}

func (n net) deliver(i int) {
	n.t.Helper()
	n.must("Deliver", n.Deliver(i))
}

func (n net) repeat(i int) {
	n.t.Helper()
	n.must("Repeat", n.Repeat(i))
}

func (n net) drop(i int) {
	n.t.Helper()
	n.must("Drop", n.Drop(i))
}

// settle delivers all messages and returns how many these were.
func (n net) settle() int {
	n.t.Helper()
	count, e := n.Settle(api.MaxSettle)
	n.must("Settle", e)
	if left := n.Messages(); len(left) > 0 {
		n.t.Fatalf("Settle leaves %v", left)
	}
	return count
}

func (n net) dropAll() {
	n.t.Helper()
	for range n.Messages() {
		n.drop(0)
	}
}

// fill repeats the first message until there are so many.
func (n net) fill(count int) {
	n.t.Helper()
	for range count - len(n.Messages()) {
		n.repeat(0)
	}
}

// pass delivers the first message of a kind from one post to another one.
func (n net) pass(kind, from, to int) {
	n.t.Helper()
	i := slices.IndexFunc(n.Messages(), func(m api.Message) bool { return m.Kind == kind && m.From == from && m.To == to })
	if i < 0 {
		n.t.Fatalf("no message of kind %d from %d to %d: %v", kind, from, to, n.Messages())
	}
	n.deliver(i)
}

// asks lets the post's operation ask these posts and hear what they tell, one after the other.
func (n net) asks(post int, others ...int) {
	n.t.Helper()
	for _, other := range others {
		n.pass(api.MsgAsk, post, other)
		n.pass(api.MsgTell, other, post)
	}
}

// puts lets the post's operation put to these posts and hear that they are done.
func (n net) puts(post int, others ...int) {
	n.t.Helper()
	for _, other := range others {
		n.pass(api.MsgPut, post, other)
		n.pass(api.MsgDone, other, post)
	}
}

func stamp(no, post, turn int) api.Stamp {
	return api.Stamp{No: no, Post: post, Turn: turn}
}

func ask(from, to, turn int) api.Message {
	return api.Message{Kind: api.MsgAsk, From: from, To: to, Turn: turn}
}

func tell(from, to, turn int, s api.Stamp, value int) api.Message {
	return api.Message{Kind: api.MsgTell, From: from, To: to, Turn: turn, Stamp: s, Value: value}
}

func put(from, to, turn int, s api.Stamp, value int) api.Message {
	return api.Message{Kind: api.MsgPut, From: from, To: to, Turn: turn, Stamp: s, Value: value}
}

func done(from, to, turn int) api.Message {
	return api.Message{Kind: api.MsgDone, From: from, To: to, Turn: turn}
}

// write and read are calls of a history; an end of -1 is none.
func write(post, value, start, end int) api.Call {
	return api.Call{Post: post, Write: true, Value: value, Start: start, End: end}
}

func read(post, value, start, end int) api.Call {
	return api.Call{Post: post, Value: value, Start: start, End: end}
}

func (n net) wantsMessages(want ...api.Message) {
	n.t.Helper()
	if got := n.Messages(); !slices.Equal(got, want) {
		n.t.Errorf("messages %v; want %v", got, want)
	}
}

func (n net) wantsCalls(want ...api.Call) {
	n.t.Helper()
	if got := n.Calls(); !slices.Equal(got, want) {
		n.t.Errorf("calls %v; want %v", got, want)
	}
}

func (n net) wantsKept(post int, want api.Stamp, wantValue int) {
	n.t.Helper()
	if got, value, e := n.Kept(post); got != want || value != wantValue || e != api.OK {
		n.t.Errorf("Kept(%d): %v, %d, error %d; want %v, %d", post, got, value, e, want, wantValue)
	}
}

func (n net) wantsBusy(post int, want bool) {
	n.t.Helper()
	if got, e := n.Busy(post); got != want || e != api.OK {
		n.t.Errorf("Busy(%d): %v, error %d; want %v", post, got, e, want)
	}
}

// wantsUp fails if a post is not up, or not down; it tries that with a copy.
func (n net) wantsUp(post int, want bool) {
	n.t.Helper()
	if got := n.Copy().Crash(post) == api.OK; got != want {
		n.t.Errorf("post %d is up: %v; want %v", post, got, want)
	}
	if got := n.Copy().Start(post) == api.ErrState; got != want {
		n.t.Errorf("post %d is up, by Start: %v; want %v", post, got, want)
	}
}

// isSame reports whether two nets show the same.
func isSame(a, b net) bool {
	if !slices.Equal(a.Messages(), b.Messages()) || !slices.Equal(a.Calls(), b.Calls()) {
		return false
	}
	for post := range a.n {
		aStamp, aValue, _ := a.Kept(post)
		bStamp, bValue, _ := b.Kept(post)
		aBusy, _ := a.Busy(post)
		bBusy, _ := b.Busy(post)
		aUp, bUp := a.Copy().Crash(post), b.Copy().Crash(post)
		if aStamp != bStamp || aValue != bValue || aBusy != bBusy || aUp != bUp {
			return false
		}
	}
	return true
}

// wantsOrder fails if an order is not this one, or there was an error.
func wantsOrder(t *testing.T, what string, order []int, e api.Errno, want ...int) {
	t.Helper()
	if !slices.Equal(order, want) || e != api.OK {
		t.Errorf("%s: %v, error %d; want %v", what, order, e, want)
	}
}

func wantsNoOrder(t *testing.T, what string, order []int, e api.Errno) {
	t.Helper()
	if len(order) > 0 || e != api.ErrPlan {
		t.Errorf("%s: %v, error %d; want ErrPlan", what, order, e)
	}
}

func wantsExplains(t *testing.T, want bool, calls []api.Call, order ...int) {
	t.Helper()
	if got, e := post.Explains(calls, order); got != want || e != api.OK {
		t.Errorf("Explains of %v by %v: %v, error %d; want %v", calls, order, got, e, want)
	}
}

// wantsRegular fails if Regular does not find the first bad read; -1: all are good.
func wantsRegular(t *testing.T, calls []api.Call, bad int) {
	t.Helper()
	i, is, e := post.Regular(calls)
	if i != max(bad, 0) || is != (bad < 0) || e != api.OK {
		t.Errorf("Regular of %v: %d, %v, error %d; want %d", calls, i, is, e, bad)
	}
}

// within fails if something does not end in time.
func within(t *testing.T, what string, limit time.Duration, f func()) {
	t.Helper()
	done := make(chan bool)
	go func() {
		defer close(done)
		f()
	}()
	select {
	case <-done:
	case <-time.After(limit):
		t.Fatalf("%s takes more than %v", what, limit)
	}
}

// weather says how often what happens to a net.
type weather struct {
	begin, deliver, drop, repeat, crash, start, settle, bad int
}

func calm() weather {
	return weather{begin: 10, deliver: 80, drop: 2, repeat: 3, crash: 1, start: 3, bad: 2}
}

func rough() weather {
	return weather{begin: 12, deliver: 60, drop: 8, repeat: 15, crash: 5, start: 10, settle: 1, bad: 4}
}

// In a flood messages are repeated until there is no room for more.
func flood() weather {
	return weather{begin: 10, deliver: 30, drop: 3, repeat: 40, crash: 1, start: 4, bad: 4}
}

// In a hurry operations follow one after the other, until there are too many.
func hurry() weather { return weather{begin: 20, deliver: 10, crash: 1, start: 3, settle: 20, bad: 1} }

func weathers() []weather { return []weather{calm(), rough(), flood(), hurry()} }

// step is a call of a method of a net.
type step struct {
	name      string
	arguments []int
}

// step chooses one at random.
func (w weather) step(r *rand.Rand, n net) step {
	messages := len(n.Messages())
	message := 0 // the first one is delivered often, or operations would never end
	if messages > 0 && r.IntN(3) > 0 {
		message = r.IntN(messages)
	}
	at := r.IntN(n.n)
	roll := r.IntN(w.begin + w.deliver + w.drop + w.repeat + w.crash + w.start + w.settle + w.bad)
	is := func(weight int) bool {
		roll -= weight
		return roll < 0
	}
	switch {
	case is(w.begin):
		if r.IntN(2) == 0 {
			return step{"Read", []int{at}}
		}
		return step{"Write", []int{at, 1 + r.IntN(5)}}
	case is(w.deliver):
		return step{"Deliver", []int{message}}
	case is(w.drop):
		return step{"Drop", []int{message}}
	case is(w.repeat):
		return step{"Repeat", []int{message}}
	case is(w.crash):
		return step{"Crash", []int{at}}
	case is(w.start):
		return step{"Start", []int{at}}
	case is(w.settle):
		return step{"Settle", []int{r.IntN(40)}}
	}
	return badStep(r, n, messages)
}

// badStep has arguments at the borders of what is allowed.
func badStep(r *rand.Rand, n net, messages int) step {
	at := []int{-1, 0, n.n - 1, n.n}[r.IntN(4)]
	message := []int{-1, messages - 1, messages}[r.IntN(3)]
	value := []int{0, 1, api.MaxValue, api.MaxValue + 1}[r.IntN(4)]
	limit := []int{-1, 0, api.MaxSettle + 1}[r.IntN(3)]
	return []step{
		{"Read", []int{at}}, {"Write", []int{at, value}}, {"Crash", []int{at}}, {"Start", []int{at}},
		{"Deliver", []int{message}}, {"Drop", []int{message}}, {"Repeat", []int{message}}, {"Settle", []int{limit}},
	}[r.IntN(8)]
}

// stepper is what steps can be done with: a net, or a slow one.
type stepper interface {
	Write(post, value int) api.Errno
	Read(post int) api.Errno
	Deliver(i int) api.Errno
	Drop(i int) api.Errno
	Repeat(i int) api.Errno
	Crash(post int) api.Errno
	Start(post int) api.Errno
	Settle(limit int) (int, api.Errno)
}

// do does a step, and returns its number, if it has one, and its error.
func (s step) do(n stepper) (int, api.Errno) {
	switch a := s.arguments; s.name {
	case "Write":
		return 0, n.Write(a[0], a[1])
	case "Read":
		return 0, n.Read(a[0])
	case "Deliver":
		return 0, n.Deliver(a[0])
	case "Drop":
		return 0, n.Drop(a[0])
	case "Repeat":
		return 0, n.Repeat(a[0])
	case "Crash":
		return 0, n.Crash(a[0])
	case "Start":
		return 0, n.Start(a[0])
	}
	return n.Settle(s.arguments[0])
}

// nets makes random nets, and lets the test make its steps.
func nets(t *testing.T, count int, test func(*rand.Rand, weather, net)) {
	t.Helper()
	r := rand.New(rand.NewPCG(9, uint64(count)))
	kinds := weathers()
	for i := range count {
		test(r, kinds[i%len(kinds)], newNet(t, 1+r.IntN(api.MaxPosts)))
	}
}
