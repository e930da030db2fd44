package inspect

import (
	"cmp"

	"cocket/api"
)

// lift makes all numbers of a game positive, and with them its value.
const lift = api.MaxPay + 1

// tableau is the equations of the simplex method for a lifted game.
//
// The one who chooses a column looks for parts of the columns with the greatest sum for which no row is paid more than 1: divided by that sum they are the best mixture, and 1 divided by it is the value. How much less than 1 a row is paid is an unknown as well. At the end, the number of the goal at such an unknown is the part of the row in the other side's mixture.
//
// The unknowns are numbered: first those of the rows, then the parts of the columns. All numbers are whole; they are divided by den. They are minors of the equations that the tableau begins with, so that they do not grow with the number of turns.
type tableau struct {
	cells [][]number // a line for each row and one for the goal; the last number of each is how great its own unknown, or the goal, is
	own   []int      // the unknowns of the rows
	top   []int      // the unknowns of the columns, which are 0
	den   number
}

// entry is a number at the border of a tableau, and the unknown to which it belongs.
type entry struct {
	number
	unknown int
}

// saddle returns the value of a game and the mixtures that prove it.
func saddle(game [][]int) api.Saddle {
	t := newTableau(game)
	for {
		column, ok := t.helpful()
		if !ok {
			break
		}
		t.pivot(t.tightest(column), column)
	}
	// The sum is a minor of four differences of differences of the game's numbers: at most 400^4 * 4^2, which is less than MaxDen. The minors of the lifted numbers are at most 201^5 * 5^(5/2), less than 2^45.
	sum := t.cells[len(t.own)][len(t.top)].whole()
	return api.Saddle{
		Value:   ratio(t.den.whole()-lift*sum, sum),
		Rows:    mixture(t.bottom(), 0, len(t.own), sum),
		Columns: mixture(t.right(), len(t.own), len(t.top), sum),
	}
}

func newTableau(game [][]int) *tableau {
	t := &tableau{den: numberOf(1)}
	var goal []number
	for i, row := range game {
		var line []number
		for _, pay := range row {
			line = append(line, numberOf(pay+lift))
		}
		t.cells = append(t.cells, append(line, numberOf(1)))
		t.own = append(t.own, i)
	}
	for j := range game[0] {
		goal = append(goal, numberOf(-1))
		t.top = append(t.top, len(game)+j)
	}
	t.cells = append(t.cells, append(goal, numberOf(0)))
	return t
}

// right lists how great the unknowns of the rows are.
func (t *tableau) right() []entry {
	var list []entry
	for i, unknown := range t.own {
		list = append(list, entry{t.cells[i][len(t.top)], unknown})
	}
	return list
}

// bottom lists how much the goal loses by the unknowns of the columns.
func (t *tableau) bottom() []entry {
	var list []entry
	for j, unknown := range t.top {
		list = append(list, entry{t.cells[len(t.own)][j], unknown})
	}
	return list
}

// helpful returns the column with the least of the unknowns by which the goal gains, if there is one. (The method comes to an end because here, and among the tightest rows, the least unknown is taken: Bland's rule.)
func (t *tableau) helpful() (int, bool) {
	best, found := 0, false
	for column, e := range t.bottom() {
		if e.sign() < 0 && (!found || e.unknown < t.top[best]) {
			best, found = column, true
		}
	}
	return best, found
}

// tightest returns the row whose own unknown is the first to be 0 when that of the column grows. There is one, because all numbers of the game are positive.
func (t *tableau) tightest(column int) int {
	best := -1
	list := t.right()
	for i, e := range list {
		if t.cells[i][column].sign() <= 0 {
			continue
		}
		if best < 0 {
			best = i
			continue
		}
		order := e.times(t.cells[best][column]).compare(list[best].times(t.cells[i][column]))
		if cmp.Or(order, cmp.Compare(e.unknown, list[best].unknown)) < 0 {
			best = i
		}
	}
	return best
}

// pivot exchanges the unknowns of a row and of a column.
func (t *tableau) pivot(at, column int) {
	chosen := t.cells[at]
	by := chosen[column]
	for i, line := range t.cells {
		if i == at {
			continue
		}
		factor := line[column]
		for k := range line {
			// A minor of the first equations: the division leaves no rest.
			line[k] = line[k].times(by).minus(factor.times(chosen[k])).over(t.den)
		}
		line[column] = factor.negated()
	}
	chosen[column] = t.den
	t.den = by
	t.own[at], t.top[column] = t.top[column], t.own[at]
}

// mixture is the parts of so many unknowns from the first one on; an unknown without an entry has no part.
func mixture(list []entry, first, count, den int) api.Parts {
	parts := api.Parts{Num: make([]int, count), Den: den}
	for _, e := range list {
		if i := e.unknown - first; isWithin(i, 0, count-1) {
			parts.Num[i] = e.whole()
		}
	}
	return lowest(parts)
}
