package inspect_test

import (
	"math/rand/v2"
	"slices"
	"testing"

	"cocket/api"
	"cocket/inspect"
)

func ratio(num, den int) api.Ratio {
	return api.Ratio{Num: num, Den: den}
}

// parts is these numbers, divided by den.
func parts(den int, num ...int) api.Parts {
	return api.Parts{Num: num, Den: den}
}

func saddle(value api.Ratio, rows, columns api.Parts) api.Saddle {
	return api.Saddle{Value: value, Rows: rows, Columns: columns}
}

func isSameParts(a, b api.Parts) bool {
	return a.Den == b.Den && slices.Equal(a.Num, b.Num)
}

func isSameSaddle(a, b api.Saddle) bool {
	return a.Value == b.Value && isSameParts(a.Rows, b.Rows) && isSameParts(a.Columns, b.Columns)
}

// isNothing reports whether these are the zero value; an empty list is the same as none.
func isNothing(p api.Parts) bool {
	return len(p.Num) == 0 && p.Den == 0
}

func isNoSaddle(s api.Saddle) bool {
	return s.Value == api.Ratio{} && isNothing(s.Rows) && isNothing(s.Columns)
}

func sum(numbers []int) int {
	all := 0
	for _, number := range numbers {
		all += number
	}
	return all
}

func divisor(a, b int) int {
	for b != 0 {
		a, b = b, a%b
	}
	return max(a, -a)
}

// lowest is the same numbers in lowest terms.
func lowest(p api.Parts) api.Parts {
	d := p.Den
	for _, num := range p.Num {
		d = divisor(d, num)
	}
	low := parts(p.Den/d, slices.Clone(p.Num)...)
	for i := range low.Num {
		low.Num[i] /= d
	}
	return low
}

// lowestRatio is the same number in lowest terms.
func lowestRatio(r api.Ratio) api.Ratio {
	d := divisor(r.Den, r.Num)
	return ratio(r.Num/d, r.Den/d)
}

// pure is the mixture that is a single one of so many moves.
func pure(moves, move int) api.Parts {
	p := parts(1, make([]int, moves)...)
	p.Num[move] = 1
	return p
}

// even is the mixture of so many moves in equal parts.
func even(moves int) api.Parts {
	return parts(moves, slices.Repeat([]int{1}, moves)...)
}

// without is a list without one of its numbers.
func without(list []int, at int) []int {
	return slices.Delete(slices.Clone(list), at, at+1)
}

func source() *rand.Rand {
	return rand.New(rand.NewPCG(6, 2026))
}

// otherNumbers are neither pays nor days nor worths.
func otherNumbers() []int {
	return []int{-1 << 63, -1<<63 + 1, -1 << 32, -101, 101, 1<<32 + 1, 1 << 62, 1<<63 - 1}
}

// randomGame is any game of at most so many moves with numbers from -most to most; in some of them many are the same.
func randomGame(r *rand.Rand, moves, most int) [][]int {
	game := make([][]int, 1+r.IntN(moves))
	columns := 1 + r.IntN(moves)
	some := []int{-most, most, r.IntN(most + 1), 0}
	few := r.IntN(3) == 0
	for i := range game {
		game[i] = make([]int, columns)
		for j := range game[i] {
			game[i][j] = r.IntN(2*most+1) - most
			if few {
				game[i][j] = some[r.IntN(len(some))]
			}
		}
	}
	return game
}

// many calls test with random games, small ones and ones as large as can be.
func many(times int, test func(r *rand.Rand, game [][]int)) {
	r := source()
	for range times {
		test(r, randomGame(r, 3, 2))
		test(r, randomGame(r, 5, 1))
		test(r, randomGame(r, 5, 5))
		test(r, randomGame(r, 5, api.MaxPay))
	}
}

// eachGame calls test with every game of so many rows and columns and numbers from -most to most.
func eachGame(rows, columns, most int, test func(game [][]int)) {
	game := make([][]int, rows)
	for i := range game {
		game[i] = make([]int, columns)
	}
	var fill func(at int)
	fill = func(at int) {
		if at == rows*columns {
			test(game)
			return
		}
		for pay := -most; pay <= most; pay++ {
			game[at/columns][at%columns] = pay
			fill(at + 1)
		}
	}
	fill(0)
}

// tinyGames calls test with every game of at most two rows and columns, and those of three by two, with small numbers.
func tinyGames(test func(game [][]int)) {
	eachGame(1, 1, 3, test)
	eachGame(1, 3, 2, test)
	eachGame(3, 1, 2, test)
	eachGame(2, 2, 3, test)
	eachGame(3, 2, 1, test)
	eachGame(2, 3, 1, test)
}

// randomMixture is any mixture of so many moves with a Den of at most most.
func randomMixture(r *rand.Rand, moves, most int) api.Parts {
	p := parts([]int{1, 2, 1 + r.IntN(min(most, 12)), 1 + r.IntN(most)}[r.IntN(4)], make([]int, moves)...)
	left := p.Den
	for _, i := range r.Perm(moves) {
		p.Num[i] = r.IntN(left + 1)
		left -= p.Num[i]
	}
	p.Num[r.IntN(moves)] += left
	return lowest(p)
}

// turned is the game with rows and columns exchanged, and all numbers negated.
func turned(game [][]int) [][]int {
	other := make([][]int, len(game[0]))
	for _, row := range game {
		for j, pay := range row {
			other[j] = append(other[j], -pay)
		}
	}
	return other
}

// part is the game of these rows and columns only.
func part(game [][]int, rows, columns []int) [][]int {
	var list [][]int
	for _, i := range rows {
		var row []int
		for _, j := range columns {
			row = append(row, game[i][j])
		}
		list = append(list, row)
	}
	return list
}

// eachDays calls test with all numbers of days and looks.
func eachDays(test func(days, looks int)) {
	for days := range api.MaxDays + 1 {
		for looks := range api.MaxDays + 1 {
			test(days, looks)
		}
	}
}

// eachWorths calls test with all lists of so many worths that are at most most, and all numbers of looks.
func eachWorths(n, most int, test func(worth []int, looks int)) {
	worth := make([]int, n)
	var fill func(i int)
	fill = func(i int) {
		if i == n {
			for looks := range n + 1 {
				test(worth, looks)
			}
			return
		}
		for w := 1; w <= most; w++ {
			worth[i] = w
			fill(i + 1)
		}
	}
	fill(0)
}

// manyWorths calls test with all small lists of worths, and with random ones of all sizes.
func manyWorths(test func(worth []int, looks int)) {
	eachWorths(1, api.MaxStake, test)
	eachWorths(2, api.MaxStake, test)
	eachWorths(3, 7, test)
	eachWorths(4, 4, test)
	r := source()
	for range 1000 {
		worth := make([]int, 1+r.IntN(api.MaxBoxes))
		for i := range worth {
			worth[i] = []int{1, api.MaxStake, worth[r.IntN(i+1)], 1 + r.IntN(api.MaxStake)}[r.IntN(4)]
			worth[i] = max(1, worth[i])
		}
		for looks := range len(worth) + 1 {
			test(worth, looks)
		}
	}
}

func mustSolve(t *testing.T, game [][]int) api.Saddle {
	t.Helper()
	s, e := inspect.Solve(game)
	if e != api.OK || len(s.Rows.Num) != len(game) || len(s.Columns.Num) != len(game[0]) {
		t.Fatalf("Solve of %v: %v, error %d", game, s, e)
	}
	return s
}

func mustPay(t *testing.T, game [][]int, rows, columns api.Parts) api.Ratio {
	t.Helper()
	pay, e := inspect.Pay(game, rows, columns)
	if e != api.OK {
		t.Fatalf("Pay of %v, %v and %v: error %d", game, rows, columns, e)
	}
	return pay
}

func mustLean(t *testing.T, game [][]int) ([]int, []int) {
	t.Helper()
	rows, columns, e := inspect.Lean(game)
	if e != api.OK || len(rows) == 0 || len(columns) == 0 {
		t.Fatalf("Lean of %v: %v and %v, error %d", game, rows, columns, e)
	}
	return rows, columns
}

func mustDresher(t *testing.T, days, looks int) api.Ratio {
	t.Helper()
	gain, e := inspect.Dresher(days, looks)
	if e != api.OK {
		t.Fatalf("Dresher of %d days and %d looks: error %d", days, looks, e)
	}
	return gain
}

func mustToday(t *testing.T, days, looks int) (api.Ratio, api.Ratio) {
	t.Helper()
	look, going, e := inspect.Today(days, looks)
	if e != api.OK {
		t.Fatalf("Today of %d days and %d looks: error %d", days, looks, e)
	}
	return look, going
}

func mustPlan(t *testing.T, days, looks int) []api.Ratio {
	t.Helper()
	plan, e := inspect.Plan(days, looks)
	if e != api.OK || len(plan) != days {
		t.Fatalf("Plan of %d days and %d looks: %v, error %d", days, looks, plan, e)
	}
	return plan
}

func mustBoxes(t *testing.T, worth []int, looks int) api.Saddle {
	t.Helper()
	s, e := inspect.Boxes(worth, looks)
	if e != api.OK || len(s.Rows.Num) != len(worth) || len(s.Columns.Num) != len(worth) {
		t.Fatalf("Boxes of %v and %d looks: %v, error %d", worth, looks, s, e)
	}
	return s
}

func expectIs(t *testing.T, game [][]int, s api.Saddle, want bool) {
	t.Helper()
	if got, e := inspect.Is(game, s); got != want || e != api.OK {
		t.Fatalf("Is of %v of %v: %v, error %d; want %v", s, game, got, e, want)
	}
}

func expectPay(t *testing.T, game [][]int, rows, columns api.Parts, want api.Ratio) {
	t.Helper()
	if got, e := inspect.Pay(game, rows, columns); got != want || e != api.OK {
		t.Errorf("Pay of %v, %v and %v: %v, error %d; want %v", game, rows, columns, got, e, want)
	}
}

func expectAnswer(t *testing.T, game [][]int, rows api.Parts, column int, want api.Ratio) {
	t.Helper()
	if got, pay, e := inspect.Answer(game, rows); got != column || pay != want || e != api.OK {
		t.Errorf("Answer of %v and %v: %d pays %v, error %d; want that %d pays %v", game, rows, got, pay, e, column, want)
	}
}

func expectLean(t *testing.T, game [][]int, rows, columns []int) {
	t.Helper()
	if gotRows, gotColumns, e := inspect.Lean(game); !slices.Equal(gotRows, rows) || !slices.Equal(gotColumns, columns) || e != api.OK {
		t.Errorf("Lean of %v: %v and %v, error %d; want %v and %v", game, gotRows, gotColumns, e, rows, columns)
	}
}
