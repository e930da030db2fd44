package inspect_test

import (
	"math/big"
	"math/rand/v2"
	"slices"
	"testing"

	"cocket/api"
	"cocket/inspect"
)

func TestP6_7IsOfSolve(t *testing.T) {
	test := func(game [][]int) { expectIs(t, game, mustSolve(t, game), true) }
	tinyGames(test)
	eachGame(3, 3, 1, test)
	many(2000, func(_ *rand.Rand, game [][]int) { test(game) })
}

// saddles lists the saddles of a game that have mixtures of this Den.
func saddles(game [][]int, value api.Ratio, den int) []api.Saddle {
	var list []api.Saddle
	for _, rows := range mixtures(len(game), den) {
		for _, columns := range mixtures(len(game[0]), den) {
			if s := saddle(value, rows, columns); slowIs(game, s) {
				list = append(list, s)
			}
		}
	}
	return list
}

// mixtures lists the mixtures of so many moves of which the parts are multiples of 1 / den.
func mixtures(moves, den int) []api.Parts {
	var list []api.Parts
	num := make([]int, moves)
	var fill func(i, left int)
	fill = func(i, left int) {
		if i == moves-1 {
			num[i] = left
			list = append(list, lowest(parts(den, num...)))
			return
		}
		for n := range left + 1 {
			num[i] = n
			fill(i+1, left-n)
		}
	}
	fill(0, den)
	return list
}

// Whatever two saddles there are, the rows of one go with the columns of the other.
func TestP6_7SaddlesAreExchanged(t *testing.T) {
	found := 0
	test := func(game [][]int) {
		first := mustSolve(t, game)
		list := append(saddles(game, first.Value, 4), first)
		found += len(list) - 1
		for _, a := range list {
			for _, b := range list {
				expectIs(t, game, saddle(first.Value, a.Rows, b.Columns), true)
			}
		}
	}
	eachGame(2, 2, 1, test)
	eachGame(2, 3, 1, func(game [][]int) {
		if game[0][0] == 0 {
			test(game)
		}
	})
	if found < 1000 {
		t.Errorf("only %d other saddles were tried", found)
	}
}

func TestP6_7OnlyOneValue(t *testing.T) {
	many(300, func(r *rand.Rand, game [][]int) {
		s := mustSolve(t, game)
		for range 5 {
			other := lowestRatio(ratio(s.Value.Num*3+r.IntN(5)-2, s.Value.Den*3))
			rows, columns := randomMixture(r, len(game), 6), randomMixture(r, len(game[0]), 6)
			for _, x := range []api.Parts{s.Rows, rows} {
				for _, y := range []api.Parts{s.Columns, columns} {
					if is, _ := inspect.Is(game, saddle(other, x, y)); is && other != s.Value {
						t.Fatalf("%v is a value of %v, and so is %v", other, game, s.Value)
					}
				}
			}
		}
	})
}

// Nobody gets more than the value against who plays the mixture of Solve, and the best answer pays just that.
func TestP6_7AnswerPaysTheValue(t *testing.T) {
	many(300, func(r *rand.Rand, game [][]int) {
		s := mustSolve(t, game)
		if s.Rows.Den > 1000000 {
			return
		}
		if _, pay, e := inspect.Answer(game, s.Rows); pay != s.Value || e != api.OK {
			t.Fatalf("Answer to the rows of %v of %v: %v, error %d", s, game, pay, e)
		}
		other := randomMixture(r, len(game), 1000000)
		if _, pay, e := inspect.Answer(game, other); rat(pay).Cmp(rat(s.Value)) > 0 || e != api.OK {
			t.Fatalf("Answer to %v of %v: %v, error %d; the value is %v", other, game, pay, e, s.Value)
		}
		if s.Columns.Den <= 1000000 && mustPay(t, game, s.Rows, s.Columns) != s.Value {
			t.Fatalf("the pay of %v of %v is not the value", s, game)
		}
	})
}

func TestP6_8WorseMovesDoNotChangeTheValue(t *testing.T) {
	test := func(game [][]int) {
		rows, columns := mustLean(t, game)
		whole, left := mustSolve(t, game), mustSolve(t, part(game, rows, columns))
		if whole.Value != left.Value {
			t.Fatalf("the value of %v is %v; of the rows %v and columns %v: %v", game, whole.Value, rows, columns, left.Value)
		}
	}
	tinyGames(test)
	eachGame(3, 3, 1, test)
	many(1000, func(_ *rand.Rand, game [][]int) { test(game) })
}

// changed is the game with all numbers times c, and d more.
func changed(game [][]int, c, d int) [][]int {
	other := make([][]int, len(game))
	for i, row := range game {
		for _, pay := range row {
			other[i] = append(other[i], c*pay+d)
		}
	}
	return other
}

func TestP6_9Measures(t *testing.T) {
	test := func(r *rand.Rand, game [][]int, c, d int) {
		s, other := mustSolve(t, game), mustSolve(t, changed(game, c, d))
		if want := plus(times(whole(c), rat(s.Value)), whole(d)); !isExactly(other.Value, want) {
			t.Fatalf("the value of %v is %v; of %d times it and %d more: %v", game, s.Value, c, d, other.Value)
		}
		if c > 0 {
			expectIs(t, changed(game, c, d), saddle(other.Value, s.Rows, s.Columns), true)
		}
	}
	r := source()
	for range 2000 {
		c := r.IntN(11)
		game := randomGame(r, 5, 1+r.IntN(api.MaxPay/max(2, c)-1))
		greatest := 0
		for _, row := range changed(game, c, 0) {
			greatest = max(greatest, slices.Max(row), -slices.Min(row))
		}
		rest := api.MaxPay - greatest
		test(r, game, c, r.IntN(2*rest+1)-rest)
		test(r, game, c, rest)
		test(r, game, c, -rest)
		test(r, game, 1, 0)
	}
}

func TestP6_9Turned(t *testing.T) {
	test := func(game [][]int) {
		s, other := mustSolve(t, game), mustSolve(t, turned(game))
		if other.Value != ratio(-s.Value.Num, s.Value.Den) {
			t.Fatalf("the value of %v is %v; turned it is %v", game, s.Value, other.Value)
		}
		expectIs(t, turned(game), saddle(other.Value, s.Columns, s.Rows), true)
	}
	tinyGames(test)
	many(1000, func(_ *rand.Rand, game [][]int) { test(game) })
}

func TestP6_10Dresher(t *testing.T) {
	eachDays(func(days, looks int) {
		if looks >= days {
			return
		}
		all := 0
		for k := range looks + 1 {
			all += choose(days, k)
		}
		if got, want := mustDresher(t, days, looks), big.NewRat(int64(choose(days-1, looks)), int64(all)); !isExactly(got, want) {
			t.Errorf("Dresher of %d days and %d looks: %v; want %v", days, looks, got, want)
		}
	})
}

func TestP6_11MoreLooksAndMoreDays(t *testing.T) {
	eachDays(func(days, looks int) {
		gain := rat(mustDresher(t, days, looks))
		if looks < api.MaxDays && rat(mustDresher(t, days, looks+1)).Cmp(gain) > 0 {
			t.Errorf("%d days: more is gained with a look more than %d", days, looks)
		}
		if days < api.MaxDays && rat(mustDresher(t, days+1, looks)).Cmp(gain) < 0 {
			t.Errorf("%d looks: less is gained in a day more than %d", looks, days)
		}
		if days == 0 || looks == api.MaxDays {
			return
		}
		here, _ := mustToday(t, days, looks)
		there, _ := mustToday(t, days, looks+1)
		if rat(there).Cmp(rat(here)) < 0 {
			t.Errorf("%d days: a look is less likely with a look more than %d", days, looks)
		}
	})
}

func TestP6_12Boxes(t *testing.T) {
	manyWorths(func(worth []int, looks int) {
		s := mustBoxes(t, worth, looks)
		if !slowBoxes(worth, looks, s) {
			t.Fatalf("Boxes of %v and %d looks: %v is no saddle", worth, looks, s)
		}
		if want := valueOfBoxes(worth, looks); !isExactly(s.Value, want) {
			t.Fatalf("Boxes of %v and %d looks: %v; want %v", worth, looks, s, want)
		}
	})
}

// A game of at most five boxes and one look, or one box that is not opened, is a matrix.
func TestP6_12BoxesAreAGame(t *testing.T) {
	manyWorths(func(worth []int, looks int) {
		n := len(worth)
		if n > api.MaxMoves || looks != 1 && looks != n-1 {
			return
		}
		game := make([][]int, n)
		for i, w := range worth {
			game[i] = make([]int, n)
			for j := range game[i] {
				if (looks == 1) != (i == j) {
					game[i][j] = w
				}
			}
		}
		if n == 1 {
			game = [][]int{{worth[0] * (1 - looks)}}
		}
		if s, other := mustBoxes(t, worth, looks), mustSolve(t, game); s.Value != other.Value {
			t.Fatalf("Boxes of %v and %d looks: %v; the game %v: %v", worth, looks, s, game, other)
		}
	})
}
