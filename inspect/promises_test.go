package inspect_test

import (
	"math/big"
	"math/rand/v2"
	"slices"
	"testing"

	"cocket/api"
	"cocket/inspect"
)

// look is the game of two days and one look.
var look = [][]int{{0, -1}, {-1, 1}}

// Games with a single saddle.
func TestP6_1SolveKnown(t *testing.T) {
	cases := []struct {
		game [][]int
		want api.Saddle
	}{
		{look, saddle(ratio(-1, 3), parts(3, 2, 1), parts(3, 2, 1))},
		{[][]int{{5}}, saddle(ratio(5, 1), parts(1, 1), parts(1, 1))},
		{[][]int{{0}}, saddle(ratio(0, 1), parts(1, 1), parts(1, 1))},
		{[][]int{{-100}}, saddle(ratio(-100, 1), parts(1, 1), parts(1, 1))},
		{[][]int{{100}}, saddle(ratio(100, 1), parts(1, 1), parts(1, 1))},
		{[][]int{{4, 3, 5, 7, 6}}, saddle(ratio(3, 1), parts(1, 1), parts(1, 0, 1, 0, 0, 0))},
		{[][]int{{4}, {3}, {-5}, {7}, {6}}, saddle(ratio(7, 1), parts(1, 0, 0, 0, 1, 0), parts(1, 1))},
		{[][]int{{1, 2}, {3, 4}}, saddle(ratio(3, 1), parts(1, 0, 1), parts(1, 1, 0))},
		{[][]int{{1, -1}, {-1, 1}}, saddle(ratio(0, 1), parts(2, 1, 1), parts(2, 1, 1))},
		{[][]int{{0, 1, -1}, {-1, 0, 1}, {1, -1, 0}}, saddle(ratio(0, 1), parts(3, 1, 1, 1), parts(3, 1, 1, 1))},
		{[][]int{{-3, 7, 2}, {4, -1, 0}}, saddle(ratio(8, 9), parts(9, 4, 5), parts(9, 2, 0, 7))},
		{[][]int{{100, -100}, {-100, 99}}, saddle(ratio(-100, 399), parts(399, 199, 200), parts(399, 199, 200))},
		{[][]int{{1, 0, 0, 0, 0}, {0, 2, 0, 0, 0}, {0, 0, 3, 0, 0}, {0, 0, 0, 4, 0}, {0, 0, 0, 0, 5}}, saddle(ratio(60, 137), parts(137, 60, 30, 20, 15, 12), parts(137, 60, 30, 20, 15, 12))},
		{[][]int{{-1, 0, 0}, {0, -2, 0}, {0, 0, -3}}, saddle(ratio(-6, 11), parts(11, 6, 3, 2), parts(11, 6, 3, 2))},
	}
	for _, c := range cases {
		if got := mustSolve(t, c.game); !isSameSaddle(got, c.want) {
			t.Errorf("Solve of %v: %v; want %v", c.game, got, c.want)
		}
		expectIs(t, c.game, c.want, true)
	}
}

// Games in which many mixtures are equally good, so that a method that takes any of them may go round.
func TestP6_1SolveOfTheSame(t *testing.T) {
	for rows := 1; rows <= api.MaxMoves; rows++ {
		for columns := 1; columns <= api.MaxMoves; columns++ {
			for _, pay := range []int{-api.MaxPay, -1, 0, 1, api.MaxPay} {
				game := slices.Repeat([][]int{slices.Repeat([]int{pay}, columns)}, rows)
				s := mustSolve(t, game)
				if s.Value != ratio(pay, 1) || !slowIs(game, s) {
					t.Errorf("Solve of %v: %v", game, s)
				}
				expectIs(t, game, saddle(s.Value, even(rows), even(columns)), true)
			}
		}
	}
}

func TestP6_1SolveAgainstSlow(t *testing.T) {
	test := func(game [][]int) {
		if s := mustSolve(t, game); !slowIs(game, s) {
			t.Fatalf("Solve of %v: %v is no saddle", game, s)
		}
	}
	tinyGames(test)
	many(500, func(_ *rand.Rand, game [][]int) { test(game) })
}

// Games of the greatest numbers have the greatest divisors.
func TestP6_1SolveOfGreatNumbers(t *testing.T) {
	r := source()
	greatest := 0
	for range 1000 {
		game := make([][]int, api.MaxMoves)
		for i := range game {
			for range api.MaxMoves {
				game[i] = append(game[i], (api.MaxPay-r.IntN(3))*(1-2*r.IntN(2)))
			}
			game[i][i] = api.MaxPay - r.IntN(3)
		}
		s := mustSolve(t, game)
		if !slowIs(game, s) {
			t.Fatalf("Solve of %v: %v is no saddle", game, s)
		}
		greatest = max(greatest, s.Rows.Den, s.Columns.Den, s.Value.Den)
	}
	if greatest < 1<<32 {
		t.Errorf("the greatest divisor is %d", greatest)
	}
}

// In the first three games the method divides by a number that ends with a whole word of zeros.
func TestP6_1SolveOfPowersOfTwo(t *testing.T) {
	games := [][][]int{
		{{27, 27, 91, -37, 91}, {91, -37, -37, 27, -37}, {-37, 91, 27, 27, -37}, {91, -37, 27, 91, -37}, {-37, 91, 27, 27, 27}},
		{{27, -37, 91, -37, 91}, {91, -37, 91, 27, 27}, {27, 27, 91, 27, -37}, {91, 91, 27, -37, -37}, {27, 27, -37, 91, 91}},
		{{91, 91, 27, -37, 27}, {91, -37, 27, 91, 27}, {27, 27, 91, 27, 27}, {27, 91, 91, 91, -37}, {-37, 91, 91, -37, 91}},
	}
	r := source()
	for range 1000 {
		game := make([][]int, api.MaxMoves)
		for i := range game {
			for range api.MaxMoves {
				game[i] = append(game[i], 64*(1+r.IntN(3))-101)
			}
		}
		games = append(games, game)
	}
	for _, game := range games {
		if s := mustSolve(t, game); !slowIs(game, s) {
			t.Fatalf("Solve of %v: %v is no saddle", game, s)
		}
	}
}

func TestP6_1Is(t *testing.T) {
	const top = api.MaxDen
	right := parts(3, 2, 1)
	value := ratio(-1, 3)
	nothing := [][]int{{0, 0}, {0, 0}}
	cases := []struct {
		what string
		game [][]int
		s    api.Saddle
		want bool
	}{
		{"the saddle", look, saddle(value, right, right), true},
		{"halves", look, saddle(value, parts(2, 1, 1), parts(2, 1, 1)), false},
		{"other rows", look, saddle(value, parts(2, 1, 1), right), false},
		{"other columns", look, saddle(value, right, parts(2, 1, 1)), false},
		{"rows the other way", look, saddle(value, parts(3, 1, 2), right), false},
		{"columns the other way", look, saddle(value, right, parts(3, 1, 2)), false},
		{"a greater value", look, saddle(ratio(0, 1), right, right), false},
		{"a lesser value", look, saddle(ratio(-1, 2), right, right), false},
		{"a value that is a bit greater", look, saddle(ratio(-733007751850, 2199023255551), right, right), false},
		{"a value that is a bit less", look, saddle(ratio(-733007751851, 2199023255552), right, right), false},
		{"a value not in lowest terms", look, saddle(ratio(-2, 6), right, right), false},
		{"a value below 0 upside down", look, saddle(ratio(1, -3), right, right), false},
		{"a value without a divisor", nothing, saddle(ratio(0, 0), right, right), false},
		{"no value", nothing, api.Saddle{Rows: right, Columns: right}, false},
		{"0 not in lowest terms", nothing, saddle(ratio(0, 2), right, right), false},
		{"any mixtures", nothing, saddle(ratio(0, 1), right, parts(5, 1, 4)), true},
		{"rows not in lowest terms", look, saddle(value, parts(6, 4, 2), right), false},
		{"columns not in lowest terms", look, saddle(value, right, parts(6, 4, 2)), false},
		{"rows in all less than 1", nothing, saddle(ratio(0, 1), parts(4, 2, 1), right), false},
		{"rows in all more than 1", nothing, saddle(ratio(0, 1), parts(2, 2, 1), right), false},
		{"columns in all less than 1", nothing, saddle(ratio(0, 1), right, parts(4, 2, 1)), false},
		{"columns in all more than 1", nothing, saddle(ratio(0, 1), right, parts(2, 2, 1)), false},
		{"rows below 0", nothing, saddle(ratio(0, 1), parts(1, -1, 2), right), false},
		{"columns below 0", nothing, saddle(ratio(0, 1), right, parts(1, 2, -1)), false},
		{"all rows below 0", nothing, saddle(ratio(0, 1), parts(-3, -2, -1), right), false},
		{"rows of nothing", nothing, saddle(ratio(0, 1), parts(0, 0, 0), right), false},
		{"columns of nothing", nothing, saddle(ratio(0, 1), right, parts(0, 0, 0)), false},
		{"no rows", nothing, saddle(ratio(0, 1), api.Parts{}, right), false},
		{"no columns", nothing, saddle(ratio(0, 1), right, api.Parts{}), false},
		{"a row too few", nothing, saddle(ratio(0, 1), parts(1, 1), right), false},
		{"a row too many", nothing, saddle(ratio(0, 1), parts(3, 2, 1, 0), right), false},
		{"a column too few", nothing, saddle(ratio(0, 1), right, parts(1, 1)), false},
		{"a column too many", nothing, saddle(ratio(0, 1), right, parts(3, 2, 1, 0)), false},
		{"rows and columns exchanged", [][]int{{0, 0, 0}}, saddle(ratio(0, 1), parts(3, 1, 1, 1), parts(1, 1)), false},
		{"the greatest divisor of rows", nothing, saddle(ratio(0, 1), parts(top, 1, top-1), right), true},
		{"the greatest divisor of columns", nothing, saddle(ratio(0, 1), right, parts(top, top-1, 1)), true},
		{"a greater divisor of rows", nothing, saddle(ratio(0, 1), parts(top+1, 1, top), right), false},
		{"a greater divisor of columns", nothing, saddle(ratio(0, 1), right, parts(top+1, top, 1)), false},
	}
	for _, c := range cases {
		if got, e := inspect.Is(c.game, c.s); got != c.want || e != api.OK {
			t.Errorf("%s: %v of %v: %v, error %d", c.what, c.s, c.game, got, e)
		}
		if slowIs(c.game, c.s) != c.want {
			t.Errorf("%s: the slow answer differs", c.what)
		}
	}
}

// Products that come round to what is asked for are not it.
func TestP6_1IsDoesNotOverflow(t *testing.T) {
	const top = api.MaxDen
	rows := parts(top, 1, top-1)
	for _, game := range [][][]int{{{0}, {0}}, {{1}, {1}}, {{100}, {100}}, {{-100}, {-100}}} {
		for _, value := range []api.Ratio{ratio(top, top-1), ratio(-top, top-1), ratio(top-1, top), ratio(1-top, top), ratio(top, 1), ratio(-top, 1), ratio(top, 3), ratio(1, top), ratio(-1, top)} {
			s := saddle(value, rows, parts(1, 1))
			expectIs(t, game, s, false)
			expectIs(t, turned(game), saddle(ratio(-value.Num, value.Den), s.Columns, s.Rows), false)
		}
		expectIs(t, game, saddle(ratio(game[0][0], 1), rows, parts(1, 1)), true)
	}
	const quarter, least, greatest = 1 << 62, -1 << 63, 1<<63 - 1
	game := slices.Repeat([][]int{{0}}, 5)
	for _, p := range []api.Parts{
		parts(1, quarter, quarter, quarter, quarter, 1), parts(1, greatest, greatest, 3, 0, 0), parts(1, least, least, 1, 0, 0), parts(1, greatest, -greatest, 1, 0, 0),
		parts(least, least, 0, 0, 0, 0), parts(greatest, greatest, 0, 0, 0, 0), parts(1<<32, 1<<32, 0, 0, 0, 0), parts(1, 1<<32+1, 0, 0, 0, 0),
	} {
		expectIs(t, game, saddle(ratio(0, 1), p, parts(1, 1)), false)
		expectIs(t, turned(game), saddle(ratio(0, 1), parts(1, 1), p), false)
	}
	for _, n := range []int{least, least + 1, -top - 1, top + 1, quarter, greatest} {
		for _, value := range []api.Ratio{ratio(n, 1), ratio(1, n), ratio(0, n), ratio(n, n), ratio(n, 0), ratio(n, 3)} {
			expectIs(t, game, saddle(value, pure(5, 0), parts(1, 1)), false)
			expectIs(t, [][]int{{1}}, saddle(value, parts(1, 1), parts(1, 1)), false)
		}
	}
}

// Each saddle is no longer one, or another one, when anything is changed.
func TestP6_1IsAgainstSlow(t *testing.T) {
	many(200, func(r *rand.Rand, game [][]int) {
		s := mustSolve(t, game)
		rows, columns := randomMixture(r, len(game), 20), randomMixture(r, len(game[0]), 20)
		for _, other := range []api.Saddle{
			s, saddle(s.Value, rows, s.Columns), saddle(s.Value, s.Rows, columns), saddle(s.Value, rows, columns),
			saddle(lowestRatio(ratio(s.Value.Num+1, s.Value.Den)), s.Rows, s.Columns), saddle(lowestRatio(ratio(s.Value.Num-1, s.Value.Den)), s.Rows, s.Columns),
			saddle(lowestRatio(ratio(s.Value.Num, s.Value.Den+1)), s.Rows, s.Columns),
			saddle(ratio(2*s.Value.Num, 2*s.Value.Den), s.Rows, s.Columns),
			saddle(mustPay(t, game, rows, columns), rows, columns),
		} {
			expectIs(t, game, other, slowIs(game, other))
		}
	})
}

func TestP6_2Pay(t *testing.T) {
	const top = 1000000
	game := [][]int{{-3, 7, 2}, {4, -1, 0}}
	expectPay(t, game, parts(1, 1, 0), parts(1, 0, 1, 0), ratio(7, 1))
	expectPay(t, game, parts(1, 0, 1), parts(1, 0, 0, 1), ratio(0, 1))
	expectPay(t, game, parts(1, 0, 1), parts(1, 0, 1, 0), ratio(-1, 1))
	expectPay(t, game, parts(2, 1, 1), parts(1, 1, 0, 0), ratio(1, 2))
	expectPay(t, game, parts(2, 1, 1), parts(3, 1, 1, 1), ratio(3, 2))
	expectPay(t, game, parts(9, 4, 5), parts(9, 2, 0, 7), ratio(8, 9))
	expectPay(t, game, parts(3, 1, 2), parts(4, 1, 0, 3), ratio(11, 12))
	expectPay(t, game, parts(3, 2, 1), parts(4, 3, 1, 0), ratio(7, 12))
	expectPay(t, look, parts(2, 1, 1), parts(2, 1, 1), ratio(-1, 4))
	expectPay(t, [][]int{{-100}}, parts(1, 1), parts(1, 1), ratio(-100, 1))
	// The greatest numbers.
	expectPay(t, [][]int{{100, 0}, {0, 99}}, parts(top, 1, top-1), parts(top, 1, top-1), ratio(100+99*(top-1)*(top-1), top*top))
	expectPay(t, [][]int{{-100, 0}, {0, -99}}, parts(top, 1, top-1), parts(top, 1, top-1), ratio(-100-99*(top-1)*(top-1), top*top))
	all := slices.Repeat([][]int{slices.Repeat([]int{100}, 5)}, 5)
	expectPay(t, all, parts(top, 1, 1, 1, 1, top-4), parts(top, top-4, 1, 1, 1, 1), ratio(100, 1))
}

func TestP6_2PayAndAnswerAgainstSlow(t *testing.T) {
	many(200, func(r *rand.Rand, game [][]int) {
		for range 5 {
			rows, columns := randomMixture(r, len(game), 1000000), randomMixture(r, len(game[0]), 1000000)
			if pay, want := mustPay(t, game, rows, columns), slowPay(game, rows, columns); !isExactly(pay, want) {
				t.Fatalf("Pay of %v, %v and %v: %v; want %v", game, rows, columns, pay, want)
			}
			column, pay, e := inspect.Answer(game, rows)
			if best, want := slowAnswer(game, rows); column != best || !isExactly(pay, want) || e != api.OK {
				t.Fatalf("Answer of %v and %v: %d pays %v, error %d; want that %d pays %v", game, rows, column, pay, e, best, want)
			}
		}
	})
}

func TestP6_2Answer(t *testing.T) {
	const top = 1000000
	expectAnswer(t, look, parts(2, 1, 1), 0, ratio(-1, 2))
	expectAnswer(t, look, parts(3, 2, 1), 0, ratio(-1, 3))
	expectAnswer(t, look, parts(1, 1, 0), 1, ratio(-1, 1))
	expectAnswer(t, look, parts(1, 0, 1), 0, ratio(-1, 1))
	expectAnswer(t, [][]int{{5, 3, 4, 3, 3}}, parts(1, 1), 1, ratio(3, 1))
	expectAnswer(t, [][]int{{5, 4, 3, 2, 1}}, parts(1, 1), 4, ratio(1, 1))
	expectAnswer(t, [][]int{{0, 0, 0}, {0, 0, 0}}, parts(2, 1, 1), 0, ratio(0, 1))
	expectAnswer(t, [][]int{{4, 2}, {0, 2}}, parts(2, 1, 1), 0, ratio(2, 1))
	expectAnswer(t, [][]int{{100, 99}, {-100, -99}}, parts(top, 1, top-1), 0, ratio(-499999, 5000))
}

// Lean leaves out rows first, and the first one of them.
func TestP6_3Lean(t *testing.T) {
	one, two, three := []int{0}, []int{0, 1}, []int{0, 1, 2}
	expectLean(t, [][]int{{7}}, one, one)
	expectLean(t, look, two, two)
	expectLean(t, [][]int{{1, 2}, {3, 4}}, []int{1}, one)
	expectLean(t, [][]int{{3, 4}, {1, 2}}, one, one)
	expectLean(t, [][]int{{4, 3}, {2, 1}}, one, []int{1})
	expectLean(t, [][]int{{0, 1, -1}, {-1, 0, 1}, {1, -1, 0}}, three, three)
	// What is the same as another one is not worse.
	expectLean(t, [][]int{{1, 1}, {1, 1}}, two, two)
	expectLean(t, [][]int{{0, 1}, {1, 0}, {0, 1}}, three, two)
	expectLean(t, [][]int{{0, 1, 0}, {1, 0, 1}}, two, three)
	// But for one number it is the same.
	expectLean(t, [][]int{{1, 1}, {1, 2}}, []int{1}, one)
	expectLean(t, [][]int{{1, 1, 1}, {1, 1, 0}}, one, three)
	// Either a row or a column could be left out: the row is.
	expectLean(t, [][]int{{1, 0}, {0, 0}}, one, []int{1})
	expectLean(t, [][]int{{0, 0}, {0, 1}}, []int{1}, one)
	expectLean(t, [][]int{{0, 0}, {0, -1}}, one, two)
	expectLean(t, [][]int{{2, 2}, {2, 3}, {3, 2}}, []int{1, 2}, two)
	// A row is worse only when a column is gone, and then a column only when that row is gone.
	expectLean(t, [][]int{{1, 0, 9}, {2, 6, 5}}, []int{1}, one)
	expectLean(t, [][]int{{1, 9, 0}, {2, 0, 9}, {0, 8, 8}}, three, three)
	// A single row has no other one.
	expectLean(t, [][]int{{3, 1, 2}}, one, []int{1})
	expectLean(t, [][]int{{3}, {1}, {3}}, []int{0, 2}, one)
	expectLean(t, [][]int{{3, 1, 1, 2, 1}}, one, []int{1, 2, 4})
	expectLean(t, [][]int{{1, 1, 1, 1, 1}, {2, 2, 2, 2, 2}, {3, 3, 3, 3, 3}, {4, 4, 4, 4, 4}, {5, 5, 5, 5, 5}}, []int{4}, []int{0, 1, 2, 3, 4})
}

func TestP6_3LeanAgainstSlow(t *testing.T) {
	test := func(game [][]int) {
		rows, columns := slowLean(game, numbersTo(len(game)), numbersTo(len(game[0])))
		expectLean(t, game, rows, columns)
	}
	tinyGames(test)
	eachGame(3, 3, 1, test)
	many(2000, func(_ *rand.Rand, game [][]int) { test(game) })
}

func TestP6_4Dresher(t *testing.T) {
	cases := []struct {
		days, looks int
		want        api.Ratio
	}{
		{0, 0, ratio(0, 1)}, {0, 1, ratio(0, 1)}, {0, 14, ratio(0, 1)},
		{1, 0, ratio(1, 1)}, {1, 1, ratio(0, 1)}, {1, 2, ratio(0, 1)},
		{2, 0, ratio(1, 1)}, {2, 1, ratio(1, 3)}, {2, 2, ratio(0, 1)},
		{3, 0, ratio(1, 1)}, {3, 1, ratio(1, 2)}, {3, 2, ratio(1, 7)}, {3, 3, ratio(0, 1)},
		{4, 1, ratio(3, 5)}, {4, 2, ratio(3, 11)}, {4, 3, ratio(1, 15)}, {4, 14, ratio(0, 1)},
		{14, 0, ratio(1, 1)}, {14, 1, ratio(13, 15)}, {14, 7, ratio(429, 2477)}, {14, 13, ratio(1, 16383)}, {14, 14, ratio(0, 1)},
	}
	for _, c := range cases {
		if got := mustDresher(t, c.days, c.looks); got != c.want {
			t.Errorf("Dresher of %d days and %d looks: %v; want %v", c.days, c.looks, got, c.want)
		}
	}
}

// What the chapter says is the value of the game of today: as great as against any single move.
func TestP6_4DresherIsTheValueOfToday(t *testing.T) {
	eachDays(func(days, looks int) {
		if looks == 0 || looks >= days {
			return
		}
		v := rat(mustDresher(t, days, looks))
		a, b := mustToday(t, days, looks)
		look, going := rat(a), rat(b)
		g, h := rat(mustDresher(t, days-1, looks-1)), rat(mustDresher(t, days-1, looks))
		none, stays := minus(whole(1), look), minus(whole(1), going)
		for _, gain := range []*big.Rat{
			minus(none, look),                    // who goes
			plus(times(look, g), times(none, h)), // who stays
			minus(times(stays, g), going),        // against a look
			plus(times(stays, h), going),         // against none
		} {
			if !isSame(gain, v) {
				t.Errorf("%d days, %d looks: %v is gained, not %v", days, looks, gain, v)
			}
		}
	})
}

func TestP6_4DresherAgainstSlow(t *testing.T) {
	all := slowDays()
	eachDays(func(days, looks int) {
		if got, want := mustDresher(t, days, looks), all[days][looks].gain; !isExactly(got, want) {
			t.Errorf("Dresher of %d days and %d looks: %v; want %v", days, looks, got, want)
		}
	})
}

func TestP6_5Today(t *testing.T) {
	cases := []struct {
		days, looks int
		look, going api.Ratio
	}{
		{1, 0, ratio(0, 1), ratio(1, 1)}, {2, 0, ratio(0, 1), ratio(1, 1)}, {14, 0, ratio(0, 1), ratio(1, 1)},
		{1, 1, ratio(1, 1), ratio(0, 1)}, {1, 14, ratio(1, 1), ratio(0, 1)}, {2, 2, ratio(1, 1), ratio(0, 1)}, {14, 14, ratio(1, 1), ratio(0, 1)},
		{2, 1, ratio(1, 3), ratio(1, 3)},
		{3, 1, ratio(1, 4), ratio(1, 4)},
		{3, 2, ratio(3, 7), ratio(1, 7)},
		{4, 2, ratio(4, 11), ratio(5, 33)},
		{14, 13, ratio(8191, 16383), ratio(1, 16383)},
	}
	for _, c := range cases {
		if look, going := mustToday(t, c.days, c.looks); look != c.look || going != c.going {
			t.Errorf("Today of %d days and %d looks: %v and %v; want %v and %v", c.days, c.looks, look, going, c.look, c.going)
		}
	}
}

func TestP6_5TodayAndPlanAgainstSlow(t *testing.T) {
	all := slowDays()
	eachDays(func(days, looks int) {
		if days == 0 {
			return
		}
		look, going := mustToday(t, days, looks)
		if want := all[days][looks]; !isExactly(look, want.look) || !isExactly(going, want.going) {
			t.Errorf("Today of %d days and %d looks: %v and %v; want %v and %v", days, looks, look, going, want.look, want.going)
		}
		stayed := whole(1)
		for i, got := range mustPlan(t, days, looks) {
			goes := all[days-i][looks].going
			if want := times(stayed, goes); !isExactly(got, want) {
				t.Errorf("Plan of %d days and %d looks: %v on the day %d; want %v", days, looks, got, i, want)
			}
			stayed = times(stayed, minus(whole(1), goes))
		}
	})
}

func TestP6_5Plan(t *testing.T) {
	cases := []struct {
		days, looks int
		want        []api.Ratio
	}{
		{1, 0, []api.Ratio{{Num: 1, Den: 1}}},
		{1, 1, []api.Ratio{{Num: 0, Den: 1}}},
		{3, 0, []api.Ratio{{Num: 1, Den: 1}, {Num: 0, Den: 1}, {Num: 0, Den: 1}}},
		{2, 1, []api.Ratio{{Num: 1, Den: 3}, {Num: 0, Den: 1}}},
		{3, 1, []api.Ratio{{Num: 1, Den: 4}, {Num: 1, Den: 4}, {Num: 0, Den: 1}}},
		{4, 1, []api.Ratio{{Num: 1, Den: 5}, {Num: 1, Den: 5}, {Num: 1, Den: 5}, {Num: 0, Den: 1}}},
		{4, 2, []api.Ratio{{Num: 5, Den: 33}, {Num: 4, Den: 33}, {Num: 0, Den: 1}, {Num: 0, Den: 1}}},
		{3, 14, []api.Ratio{{Num: 0, Den: 1}, {Num: 0, Den: 1}, {Num: 0, Den: 1}}},
	}
	for _, c := range cases {
		if got := mustPlan(t, c.days, c.looks); !slices.Equal(got, c.want) {
			t.Errorf("Plan of %d days and %d looks: %v; want %v", c.days, c.looks, got, c.want)
		}
	}
}

// Boxes of games with a single saddle.
func TestP6_6Boxes(t *testing.T) {
	cases := []struct {
		worth []int
		looks int
		want  api.Saddle
	}{
		{[]int{3, 2, 1}, 1, saddle(ratio(6, 5), parts(5, 2, 3, 0), parts(5, 3, 2, 0))},
		{[]int{1, 2, 3}, 1, saddle(ratio(6, 5), parts(5, 0, 3, 2), parts(5, 0, 2, 3))},
		{[]int{7}, 0, saddle(ratio(7, 1), parts(1, 1), parts(1, 0))},
		{[]int{7}, 1, saddle(ratio(0, 1), parts(1, 1), parts(1, 1))},
		{[]int{3, 7, 6}, 0, saddle(ratio(7, 1), parts(1, 0, 1, 0), parts(1, 0, 0, 0))},
		{[]int{1, 1, 1}, 1, saddle(ratio(2, 3), parts(3, 1, 1, 1), parts(3, 1, 1, 1))},
		{[]int{4, 4, 4, 4}, 2, saddle(ratio(2, 1), parts(4, 1, 1, 1, 1), parts(2, 1, 1, 1, 1))},
		{[]int{3, 2, 1}, 2, saddle(ratio(6, 11), parts(11, 2, 3, 6), parts(11, 9, 8, 5))},
		{[]int{20, 19, 18, 17, 1, 1, 1, 1}, 1, saddle(ratio(174420, 12617), parts(12617, 2907, 3060, 3230, 3420, 0, 0, 0, 0), parts(12617, 3896, 3437, 2927, 2357, 0, 0, 0, 0))},
	}
	for _, c := range cases {
		if got := mustBoxes(t, c.worth, c.looks); !isSameSaddle(got, c.want) {
			t.Errorf("Boxes of %v and %d looks: %v; want %v", c.worth, c.looks, got, c.want)
		}
	}
}

func TestP6_6BoxesAllOpened(t *testing.T) {
	manyWorths(func(worth []int, looks int) {
		if looks < len(worth) {
			return
		}
		s := mustBoxes(t, worth, looks)
		if s.Value != ratio(0, 1) || !isSameParts(s.Columns, parts(1, slices.Repeat([]int{1}, looks)...)) {
			t.Fatalf("Boxes of %v and %d looks: %v", worth, looks, s)
		}
	})
}
