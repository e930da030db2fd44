package house

import (
	"slices"
	"strconv"

	"cocket/api"
)

// charge is what one command wrote down: the formula for a code, and the number of the command in the book.
type charge struct {
	api.Charge
	code, no int
}

func (h *House) writeCharge(p parameters) string {
	code, name, from, to := p.number(0), p[1], p.number(2), p.number(3)
	refuseIf(h.indexOfFormula(name) < 0, api.ErrNone)
	refuseIf(!isWithin(code, 0, api.MaxCode) || from < 0 || from >= to || to > api.MaxDay, api.ErrArg)
	refuseIf(len(h.charges) >= api.MaxCharges, api.ErrFull)
	h.charges = append(h.charges, charge{api.Charge{From: from, To: to, Formula: name}, code, len(h.book) + 1})
	return "ok"
}

func isDay(day int) bool {
	return isWithin(day, 0, api.MaxDay-1)
}

// written returns what the first so many commands of the book wrote down of a code, in the order in which they did.
func (h *House) written(code, known int) []charge {
	var list []charge
	for _, c := range h.charges {
		if c.code == code && c.no <= known {
			list = append(list, c)
		}
	}
	return list
}

// formulaOn returns the formula of the day, which is the one that was written down last.
func formulaOn(written []charge, day int) (string, bool) {
	for _, c := range slices.Backward(written) {
		if c.From <= day && day < c.To {
			return c.Formula, true
		}
	}
	return "", false
}

// timeline returns the formulas of all days, with those together that are the same.
func timeline(written []charge) []api.Charge {
	var list []api.Charge
	days := turns(written)
	for i := 1; i < len(days); i++ {
		if formula, found := formulaOn(written, days[i-1]); found {
			list = extended(list, api.Charge{From: days[i-1], To: days[i], Formula: formula})
		}
	}
	return list
}

// turns returns the days, ascending, between any two of which the formula stays the same.
func turns(written []charge) []int {
	var days []int
	for _, c := range written {
		days = append(days, c.From, c.To)
	}
	slices.Sort(days)
	return slices.Compact(days)
}

// extended returns the list with one more charge, which may only make the last one longer.
func extended(list []api.Charge, c api.Charge) []api.Charge {
	last := len(list) - 1
	if last >= 0 && list[last].To == c.From && list[last].Formula == c.Formula {
		list[last].To = c.To
		return list
	}
	return append(list, c)
}

func (h *House) tellKnown(p parameters) string {
	formula, e := h.Known(p.number(0), p.number(1), p.number(2))
	refuse(e)
	return formula
}

func (h *House) tellCharges(p parameters) string {
	list, e := h.Charges(p.number(0), p.number(1))
	refuse(e)
	var words []string
	for _, c := range list {
		words = append(words, strconv.Itoa(c.From)+"-"+strconv.Itoa(c.To)+":"+c.Formula)
	}
	return orNone(words)
}
