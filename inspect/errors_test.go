package inspect_test

import (
	"fmt"
	"slices"
	"testing"
	"time"

	"cocket/api"
	"cocket/inspect"
)

// outcome is an error, and whether every other result was its zero value.
type outcome struct {
	e    api.Errno
	zero bool
}

// gameCalls makes a call of each function with a game.
func gameCalls(game [][]int, s api.Saddle) map[string]outcome {
	all := map[string]outcome{}
	found, e := inspect.Solve(game)
	all["Solve"] = outcome{e, isNoSaddle(found)}
	is, e := inspect.Is(game, s)
	all["Is"] = outcome{e, !is}
	pay, e := inspect.Pay(game, s.Rows, s.Columns)
	all["Pay"] = outcome{e, pay == api.Ratio{}}
	column, pay, e := inspect.Answer(game, s.Rows)
	all["Answer"] = outcome{e, column == 0 && pay == api.Ratio{}}
	rows, columns, e := inspect.Lean(game)
	all["Lean"] = outcome{e, len(rows) == 0 && len(columns) == 0}
	return all
}

// dayCalls makes a call of each function of days.
func dayCalls(days, looks int) map[string]outcome {
	all := map[string]outcome{}
	gain, e := inspect.Dresher(days, looks)
	all["Dresher"] = outcome{e, gain == api.Ratio{}}
	look, going, e := inspect.Today(days, looks)
	all["Today"] = outcome{e, look == api.Ratio{} && going == api.Ratio{}}
	plan, e := inspect.Plan(days, looks)
	all["Plan"] = outcome{e, len(plan) == 0}
	return all
}

// badGames are none.
func badGames() [][][]int {
	list := [][][]int{
		nil, {}, {nil}, {{}}, {{}, {}}, {{1}, {}}, {{}, {1}}, {{1}, nil}, {{1, 2}, {3}}, {{1}, {2, 3}}, {{1, 2}, {3, 4}, {5, 6, 7}}, {{1, 2}, {3, 4}, {5}},
		{{1, 2, 3, 4, 5, 6}}, {{1}, {2}, {3}, {4}, {5}, {6}}, {{101}}, {{-101}}, {{100, 101}}, {{100}, {-101}}, {{0, 0}, {0, 101}}, {{0, 0}, {-101, 0}},
		make([][]int, 100000), {make([]int, 100000)}, slices.Repeat([][]int{{1, 2, 3, 4, 5, 6}}, 6),
	}
	for _, n := range otherNumbers() {
		list = append(list, [][]int{{n}}, [][]int{{0, n}}, [][]int{{0, 1}, {n, 2}}, [][]int{{n, n}, {n, n}}, [][]int{{n, -n}})
	}
	return list
}

func TestErrorsOfGames(t *testing.T) {
	right := saddle(ratio(0, 1), parts(1, 1), parts(1, 1))
	for _, game := range badGames() {
		for _, s := range []api.Saddle{right, {}, saddle(ratio(0, 1), even(2), even(2)), saddle(ratio(0, 0), parts(0, 1, 1), parts(2, 1)), saddle(ratio(0, 1), even(6), even(6)), saddle(ratio(1, 1), parts(1), parts(1))} {
			for name, got := range gameCalls(game, s) {
				if got.e != api.ErrArg || !got.zero {
					t.Errorf("%s of %d rows (%v) and %v: error %d, zero %v; want ErrArg", name, len(game), game[:min(3, len(game))], s, got.e, got.zero)
				}
			}
		}
	}
}

// badMixtures are none of two moves with a Den up to 1000000.
func badMixtures() []api.Parts {
	const top = 1000000
	list := []api.Parts{
		{}, parts(1), parts(1, 1), parts(3, 1, 1, 1), parts(1, 1, 0, 0), {Num: make([]int, 100000), Den: 1},
		parts(0, 0, 0), parts(0, 1, 1), parts(-2, -1, -1), parts(-2, 1, 1), parts(2, 1, 2), parts(2, 1, 0), parts(1, 0, 0), parts(1, 2, -1), parts(1, -1, 2), parts(3, 4, -1),
		parts(2, 2, 0), parts(4, 2, 2), parts(6, 2, 4), parts(10, 0, 10), parts(top+1, 1, top), parts(top+1, top, 1), parts(api.MaxDen, 1, api.MaxDen-1), parts(2*top, top, top),
		parts(1, 1<<62, 1<<62), parts(1, -1<<63, -1<<63+1), parts(1, 1<<63-1, -1<<63), parts(1<<32, 1<<32, 0), parts(1<<62, 1, 1<<62-1), parts(1<<63-1, 1, 1<<63-2),
	}
	for _, n := range otherNumbers() {
		list = append(list, parts(n, 1, 1), parts(2, n, 1), parts(2, 1, n), parts(n, n, 0), parts(1, n, 1-n))
	}
	return list
}

func TestP6_2ErrorsOfMixtures(t *testing.T) {
	game, good := [][]int{{0, -1}, {-1, 1}}, even(2)
	for _, bad := range badMixtures() {
		for _, pair := range [][2]api.Parts{{bad, good}, {good, bad}, {bad, bad}} {
			if pay, e := inspect.Pay(game, pair[0], pair[1]); pay != (api.Ratio{}) || e != api.ErrArg {
				t.Errorf("Pay of %v and %v: %v, error %d; want ErrArg", pair[0], pair[1], pay, e)
			}
		}
		if column, pay, e := inspect.Answer(game, bad); column != 0 || pay != (api.Ratio{}) || e != api.ErrArg {
			t.Errorf("Answer to %v: %d pays %v, error %d; want ErrArg", bad, column, pay, e)
		}
	}
	// The right lengths are those of rows and of columns.
	wide, three := [][]int{{1, 2, 3}, {3, 2, 1}}, even(3)
	if _, e := inspect.Pay(wide, good, three); e != api.OK {
		t.Errorf("error %d", e)
	}
	if _, e := inspect.Pay(wide, three, good); e != api.ErrArg {
		t.Errorf("error %d", e)
	}
	if _, _, e := inspect.Answer(wide, three); e != api.ErrArg {
		t.Errorf("error %d", e)
	}
}

func TestP6_4ErrorsOfDays(t *testing.T) {
	for _, n := range append(otherNumbers(), -1, 15, 16, 100) {
		for _, other := range append(otherNumbers(), -1, 0, 1, 7, 14, 15) {
			for _, pair := range [][2]int{{n, other}, {other, n}} {
				for name, got := range dayCalls(pair[0], pair[1]) {
					if got.e != api.ErrArg || !got.zero {
						t.Errorf("%s of %v: error %d, zero %v; want ErrArg", name, pair, got.e, got.zero)
					}
				}
			}
		}
	}
}

func TestP6_5ErrorsWithoutDays(t *testing.T) {
	for looks := range api.MaxDays + 1 {
		for name, got := range dayCalls(0, looks) {
			if want := map[string]outcome{"Dresher": {api.OK, false}, "Today": {api.ErrPlan, true}, "Plan": {api.ErrPlan, true}}[name]; got != want {
				t.Errorf("%s of no days and %d looks: %v; want %v", name, looks, got, want)
			}
		}
	}
}

func TestP6_6ErrorsOfBoxes(t *testing.T) {
	cases := []struct {
		worth []int
		looks int
	}{
		{nil, 0}, {[]int{}, 0}, {nil, 1}, {slices.Repeat([]int{1}, 9), 1}, {make([]int, 100000), 1}, {slices.Repeat([]int{1}, 100000), 1},
		{[]int{0}, 0}, {[]int{21}, 0}, {[]int{1, 0}, 1}, {[]int{1, 21}, 1}, {[]int{-1, 1}, 1}, {[]int{20, 20, 20, 21}, 1},
		{[]int{1}, -1}, {[]int{1}, 2}, {[]int{1, 2, 3}, -1}, {[]int{1, 2, 3}, 4}, {slices.Repeat([]int{1}, 8), 9},
	}
	for _, c := range cases {
		if s, e := inspect.Boxes(c.worth, c.looks); !isNoSaddle(s) || e != api.ErrArg {
			t.Errorf("Boxes of %v and %d looks: %v, error %d; want ErrArg", c.worth[:min(9, len(c.worth))], c.looks, s, e)
		}
	}
	for _, n := range otherNumbers() {
		for _, worth := range [][]int{{n}, {1, n}, {n, 1}, {n, n}} {
			if s, e := inspect.Boxes(worth, 1); !isNoSaddle(s) || e != api.ErrArg {
				t.Errorf("Boxes of %v: %v, error %d; want ErrArg", worth, s, e)
			}
		}
		if s, e := inspect.Boxes([]int{1, 2}, n); !isNoSaddle(s) || e != api.ErrArg {
			t.Errorf("Boxes with %d looks: %v, error %d; want ErrArg", n, s, e)
		}
	}
}

// What is as large as it can be is no error.
func TestLimitsOfAll(t *testing.T) {
	const top = 1000000
	for _, pay := range []int{-api.MaxPay, api.MaxPay} {
		game := slices.Repeat([][]int{slices.Repeat([]int{pay}, api.MaxMoves)}, api.MaxMoves)
		mixture := parts(top, 1, 1, 1, 1, top-4)
		for name, got := range gameCalls(game, saddle(ratio(pay, 1), mixture, mixture)) {
			if got.e != api.OK || got.zero {
				t.Errorf("%s of %v: error %d, zero %v", name, game, got.e, got.zero)
			}
		}
	}
	for name, got := range dayCalls(api.MaxDays, api.MaxDays) {
		if got.e != api.OK || got.zero {
			t.Errorf("%s: error %d, zero %v", name, got.e, got.zero)
		}
	}
	for _, w := range []int{1, api.MaxStake} {
		for looks := range api.MaxBoxes + 1 {
			if _, e := inspect.Boxes(slices.Repeat([]int{w}, api.MaxBoxes), looks); e != api.OK {
				t.Errorf("Boxes of %d and %d looks: error %d", w, looks, e)
			}
		}
	}
}

// P1: no argument makes a function panic or go on for ever.
func TestP1AnyArguments(t *testing.T) {
	games := append(badGames(), [][]int{{1}}, [][]int{{0, -1}, {-1, 1}}, [][]int{{0, 0}, {0, 0}}, [][]int{{-100, 100}}, slices.Repeat([][]int{{1, 2, 3, 4, 5}}, 5))
	mixtures := append(badMixtures(), even(1), even(2), even(5), pure(5, 4))
	values := []api.Ratio{{}, ratio(1, 1), ratio(-1<<63, -1), ratio(-1<<63, 1), ratio(1<<63-1, 1<<63-1), ratio(1, -1<<63), ratio(0, -1), ratio(api.MaxDen, 1)}
	for _, game := range games {
		for i, rows := range mixtures {
			for _, value := range values {
				gameCalls(game, saddle(value, rows, rows))
				gameCalls(game, saddle(value, rows, mixtures[(i+7)%len(mixtures)]))
			}
		}
	}
	numbers := append(otherNumbers(), -1, 0, 1, 2, 7, 8, 9, 13, 14, 15, 20, 21)
	for _, a := range numbers {
		for _, b := range numbers {
			dayCalls(a, b)
			inspect.Boxes([]int{a, b}, 1)
			inspect.Boxes([]int{a, 3, b}, a)
			inspect.Boxes(numbers, b)
			inspect.Boxes([]int{1, 2, 3, 4, 5, 6, 7, 8}, b)
		}
	}
}

// P1: what is as large as can be comes to an end soon.
func TestP1MostWork(t *testing.T) {
	start := time.Now()
	r := source()
	for range 5000 {
		game := randomGame(r, api.MaxMoves, api.MaxPay)
		gameCalls(game, mustSolve(t, game))
	}
	for range 3 {
		eachDays(func(days, looks int) { dayCalls(days, looks) })
	}
	if took := time.Since(start); took > 20*time.Second {
		t.Error(took)
	}
}

// snapshot is all that the functions say of a game, of mixtures, of days and of boxes.
func snapshot(game [][]int, some []api.Parts, worth []int) string {
	var all []any
	s, e := inspect.Solve(game)
	all = append(all, s, e)
	for i, x := range some {
		y := some[(i+1)%len(some)]
		is, e := inspect.Is(game, saddle(s.Value, x, y))
		all = append(all, is, e)
		pay, e := inspect.Pay(game, x, y)
		all = append(all, pay, e)
		column, pay, e := inspect.Answer(game, x)
		all = append(all, column, pay, e)
	}
	rows, columns, e := inspect.Lean(game)
	all = append(all, rows, columns, e)
	for looks := range len(worth) + 1 {
		s, e := inspect.Boxes(worth, looks)
		all = append(all, s, e)
		gain, e := inspect.Dresher(len(worth), looks)
		all = append(all, gain, e)
		look, going, e := inspect.Today(len(worth), looks)
		all = append(all, look, going, e)
		plan, e := inspect.Plan(len(worth), looks)
		all = append(all, plan, e)
	}
	return fmt.Sprint(all...)
}

// P2: the same arguments have the same results, whatever was called before; and no call changes its arguments.
func TestP2OnlyArguments(t *testing.T) {
	games := [][][]int{{{0, -1}, {-1, 1}}, {{0, 0}, {0, 0}}, {{3, 1}, {2, 5}}, {{100, 99, -3}, {7, 7, 7}}, {{1}}, slices.Repeat([][]int{{3, 3, 1, 2, 3}}, 5)}
	some := append(badMixtures()[:20], even(2), parts(5, 1, 4), even(3), pure(5, 2), even(5))
	worths := [][]int{{3, 2, 1}, {5, 5, 5, 5}, {20, 1}, {1, 2, 3, 4, 5, 6, 7, 8}, {7}}
	for i, game := range games {
		worth := worths[i%len(worths)]
		kept := fmt.Sprint(game, some, worth)
		first := snapshot(game, some, worth)
		for j, other := range games {
			snapshot(other, some, worths[j%len(worths)])
			if snapshot(game, some, worth) != first {
				t.Fatalf("another answer to the same question: %v, after %v", game, other)
			}
		}
		if fmt.Sprint(game, some, worth) != kept {
			t.Fatalf("an argument is changed: %v, %v and %v; before: %s", game, some, worth, kept)
		}
	}
}

// spoil overwrites a result, and what lies behind it.
func spoil(list []int) {
	list = list[:cap(list)]
	for i := range list {
		list[i] = -77
	}
}

// P2: who writes into a result changes neither arguments nor other results.
func TestP2ResultsAreNewMemory(t *testing.T) {
	game, worth := [][]int{{3, 1, 3}, {2, 5, 2}}, []int{4, 4, 4}
	some := []api.Parts{even(2), even(3)}
	kept := fmt.Sprint(game, worth, some)
	first := snapshot(game, some, worth)
	s, again := mustSolve(t, game), mustSolve(t, game)
	spoil(s.Rows.Num)
	if !slices.Equal(s.Columns.Num, again.Columns.Num) {
		t.Errorf("rows and columns share memory: %v", s)
	}
	spoil(s.Columns.Num)
	if !slowIs(game, again) {
		t.Errorf("two saddles share memory: %v", again)
	}
	for looks := range 4 {
		s, again := mustBoxes(t, worth, looks), mustBoxes(t, worth, looks)
		spoil(s.Rows.Num)
		if !slices.Equal(s.Columns.Num, again.Columns.Num) {
			t.Errorf("rows and columns share memory: %v", s)
		}
		spoil(s.Columns.Num)
		if !slowBoxes(worth, looks, again) {
			t.Errorf("two saddles share memory: %v", again)
		}
	}
	rows, columns := mustLean(t, game)
	spoil(rows)
	if !slices.Equal(columns, []int{0, 1, 2}) {
		t.Errorf("rows and columns share memory: %v", columns)
	}
	spoil(columns)
	plan := mustPlan(t, 5, 2)
	clear(plan[:cap(plan)])
	if fmt.Sprint(game, worth, some) != kept {
		t.Errorf("arguments are changed: %v, %v and %v", game, worth, some)
	}
	if snapshot(game, some, worth) != first {
		t.Error("another answer after results were written into")
	}
}
