package quota

import "cocket/api"

// balance returns weights, not yet in lowest terms, with which the sets are balanced; false if there are none.
//
// All weights are to be positive, so each set is taken once, and then some sets are taken once more, or a part of once, until every claimant is in equally many: that number is what the weights are divided by.
func balance(n int, sets []int) (api.Parts, bool) {
	if len(sets) == 0 {
		return api.Parts{}, false
	}
	t := newTableau(n, sets)
	for t.ofGaps(t.last()) > 0 {
		column, ok := t.helpful()
		if !ok {
			return api.Parts{}, false
		}
		t.pivot(t.tightest(column), column)
	}
	weights := api.Parts{Num: make([]int, len(sets)), Den: t.value(0)}
	for i := range sets {
		weights.Num[i] = t.den + t.value(i+1)
	}
	return weights, true
}

// tableau is the equations of the simplex method, one for each claimant. The unknown 0 is in how many sets everyone shall be, and each one after it is how often a set is taken once more. In how many sets beyond that a claimant is, is an unknown as well: a gap, which shall be 0. Gaps get no column, because one that is no longer the own unknown of a row stays 0.
//
// All numbers are whole; they are divided by den. They are minors of the equations that the tableau begins with: for MaxClaims claimants and MaxSets sets they are at most 4096, so that nothing overflows.
type tableau struct {
	rows [][]int // the numbers of the unknowns, and then how great the row's own unknown is (those that no row has are 0)
	own  []int   // the unknown of each row; a gap is a negative number
	den  int
}

func newTableau(n int, sets []int) *tableau {
	t := &tableau{den: 1}
	for claimant := range n {
		row := make([]int, len(sets)+2)
		row[0] = 1
		for i, set := range sets {
			if has(set, claimant) {
				row[i+1] = -1
				row[len(row)-1]++
			}
		}
		t.rows = append(t.rows, row)
		t.own = append(t.own, -1-claimant)
	}
	return t
}

// last is the column of how great the unknowns of the rows are.
func (t *tableau) last() int {
	return len(t.rows[0]) - 1
}

// ofGaps is the sum of a column in the rows of gaps.
func (t *tableau) ofGaps(column int) int {
	sum := 0
	for i, row := range t.rows {
		if t.own[i] < 0 {
			sum += row[column]
		}
	}
	return sum
}

// helpful returns the first unknown that makes the gaps less. (The method comes to an end because here, and among the tightest rows, the least unknown is taken: Bland's rule.)
func (t *tableau) helpful() (int, bool) {
	for column := range t.last() {
		if t.ofGaps(column) > 0 {
			return column, true
		}
	}
	return 0, false
}

// tightest returns the row whose own unknown is the first to be 0 when that of the column, which is helpful, grows.
func (t *tableau) tightest(column int) int {
	best := -1
	for i, row := range t.rows {
		if row[column] <= 0 {
			continue
		}
		if best < 0 {
			best = i
			continue
		}
		here, there := row[t.last()]*t.rows[best][column], t.rows[best][t.last()]*row[column]
		if here < there || here == there && t.own[i] < t.own[best] {
			best = i
		}
	}
	return best
}

// pivot gives a row the unknown of the column as its own.
func (t *tableau) pivot(at, column int) {
	chosen := t.rows[at]
	for i, row := range t.rows {
		if i == at {
			continue
		}
		factor := row[column]
		for k := range row {
			// A minor of the first equations: the division leaves no rest.
			row[k] = (row[k]*chosen[column] - factor*chosen[k]) / t.den
		}
	}
	t.den = chosen[column]
	t.own[at] = column
}

// value is how great an unknown is, times den.
func (t *tableau) value(unknown int) int {
	for i, row := range t.rows {
		if t.own[i] == unknown {
			return row[t.last()]
		}
	}
	return 0
}
