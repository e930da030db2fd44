package house

import (
	"strconv"

	"cocket/api"
	"cocket/tariff"
)

// marks is how many marks goods have.
const marks = 2

func (h *House) addRule(p parameters) string {
	first := api.Band{Lo: p.number(0), Hi: p.number(1)}
	second := api.Band{Lo: p.number(2), Hi: p.number(3)}
	rule := api.Rule{Bands: []api.Band{first, second}, Code: p.number(4)}
	_, e := tariff.Dead(marks, []api.Rule{rule})
	refuse(e)
	refuseIf(len(h.rules) >= api.MaxRules, api.ErrFull)
	h.rules = append(h.rules, rule)
	return "rule " + strconv.Itoa(len(h.rules))
}

func (h *House) tellCode(p parameters) string {
	return strconv.Itoa(h.codeOf(p.numbers(0)))
}

func (h *House) codeOf(thing []int) int {
	code, _, e := tariff.Code(marks, h.rules, thing)
	refuse(e)
	return code
}

func (h *House) tellGap(parameters) string {
	thing, e := tariff.Gap(marks, h.rules)
	if e == api.ErrPlan {
		return none
	}
	refuse(e)
	return row(thing...)
}

func (h *House) tellDead(parameters) string {
	list, e := tariff.Dead(marks, h.rules)
	refuse(e)
	var words []string
	for _, i := range list {
		words = append(words, strconv.Itoa(i+1))
	}
	return orNone(words)
}
