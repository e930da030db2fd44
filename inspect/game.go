package inspect

import "slices"

// turned is the game with rows and columns exchanged.
func turned(game [][]int) [][]int {
	columns := make([][]int, len(game[0]))
	for _, row := range game {
		for j, pay := range row {
			columns[j] = append(columns[j], pay)
		}
	}
	return columns
}

// pays is what each row is paid against a mixture of columns, times the divisor of the mixture.
func pays(game [][]int, columns []int) []int {
	list := make([]int, len(game))
	for i, row := range game {
		for j, pay := range row {
			list[i] += pay * columns[j]
		}
	}
	return list
}

// lean returns the rows and columns that are left when worse ones are left out, one after the other.
func lean(game [][]int) ([]int, []int) {
	rows, columns := firstNumbers(len(game)), firstNumbers(len(game[0]))
	for {
		if i, ok := firstWorse(rows, columns, func(row, column int) int { return game[row][column] }); ok {
			rows = slices.Delete(rows, i, i+1)
			continue
		}
		// What a column pays it does not gain.
		j, ok := firstWorse(columns, rows, func(column, row int) int { return -game[row][column] })
		if !ok {
			return rows, columns
		}
		columns = slices.Delete(columns, j, j+1)
	}
}

// firstWorse returns where the first of the moves stands that is worse than another one of them against the others' moves.
func firstWorse(moves, others []int, gain func(move, other int) int) (int, bool) {
	for i, move := range moves {
		for _, rival := range moves {
			atMost, less := true, false
			for _, other := range others {
				mine, theirs := gain(move, other), gain(rival, other)
				atMost = atMost && mine <= theirs
				less = less || mine < theirs
			}
			if atMost && less {
				return i, true
			}
		}
	}
	return 0, false
}

// firstNumbers is 0, 1 and so on, n numbers.
func firstNumbers(n int) []int {
	list := make([]int, n)
	for i := range list {
		list[i] = i
	}
	return list
}
