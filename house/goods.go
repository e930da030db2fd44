package house

import (
	"slices"
	"strconv"
	"strings"

	"cocket/api"
)

func (h *House) indexOfGood(name string) int {
	return slices.IndexFunc(h.goods, func(g api.Good) bool { return g.Name == name })
}

// good returns the goods of a name, for a command that needs them.
func (h *House) good(name string) *api.Good {
	i := h.indexOfGood(name)
	refuseIf(i < 0, api.ErrNone)
	return &h.goods[i]
}

// held returns the goods of a name, for a command that takes them away.
func (h *House) held(name string) *api.Good {
	good := h.good(name)
	refuseIf(good.Gone || good.Cleared, api.ErrState)
	return good
}

func (h *House) enterGood(p parameters) string {
	good := api.Good{Name: p[0], Value: p.number(1), Money: p[2], Marks: p.numbers(3)}
	refuseIf(h.indexOfGood(good.Name) >= 0, api.ErrExists)
	refuseIf(!h.hasMoney(good.Money), api.ErrNone)
	refuseIf(!isWithin(good.Value, 1, api.MaxWorth) || !areWithin(good.Marks, 0, api.MaxMark), api.ErrArg)
	h.store(good)
	return "ok"
}

func (h *House) joinGoods(p parameters) string {
	name, names := p[0], p[1:]
	refuseIf(h.indexOfGood(name) >= 0, api.ErrExists)
	refuseIf(hasTwice(names), api.ErrArg)
	for _, part := range names {
		h.held(part).Gone = true
	}
	first := h.good(names[0])
	whole := api.Good{Name: name, Money: first.Money, Marks: first.Marks, From: slices.Clone(names)}
	for _, name := range names {
		part := h.good(name)
		refuseIf(part.Money != whole.Money || !slices.Equal(part.Marks, whole.Marks), api.ErrPlan)
		whole.Value += part.Value
	}
	refuseIf(whole.Value > api.MaxWorth, api.ErrArg)
	h.store(whole)
	return "ok"
}

func hasTwice(names []string) bool {
	for i, name := range names {
		if slices.Contains(names[:i], name) {
			return true
		}
	}
	return false
}

func (h *House) store(good api.Good) {
	refuseIf(len(h.goods) >= api.MaxGoods, api.ErrFull)
	h.goods = append(h.goods, good)
}

func (h *House) clearGood(p parameters) string {
	good := h.held(p[0])
	good.Duty = h.due(*good, p.number(1))
	good.Cleared = true
	return strconv.Itoa(good.Duty)
}

func (h *House) tellDue(p parameters) string {
	return strconv.Itoa(h.due(*h.good(p[0]), p.number(1)))
}

// due returns the duty on goods that are cleared on that day, by what is known now.
func (h *House) due(good api.Good, day int) int {
	refuseIf(!isDay(day), api.ErrArg)
	worth := h.worth(good)
	formula, e := h.Known(h.codeOf(good.Marks), day, len(h.book))
	refuse(e)
	return h.compute(formula, worth)
}

// worth returns the value of goods in the money of the house.
func (h *House) worth(good api.Good) int {
	best := h.best(good.Money, h.monies[0])
	return good.Value * best.Num / best.Den
}

func (h *House) tellSources(p parameters) string {
	names := h.sources(*h.good(p[0]))
	slices.Sort(names)
	return strings.Join(names, " ")
}

// sources returns the names of the goods that came in and of which these consist. None is there twice, since goods are joined only once.
func (h *House) sources(good api.Good) []string {
	if cameIn(good) {
		return []string{good.Name}
	}
	var names []string
	for _, part := range good.From {
		names = append(names, h.sources(*h.good(part))...)
	}
	return names
}

func cameIn(good api.Good) bool {
	return len(good.From) == 0
}

// isWhole reports whether the goods that are held or cleared, of this money, are worth what came in.
func (h *House) isWhole(money string) bool {
	missing := 0
	for _, good := range h.goods {
		if good.Money != money {
			continue
		}
		if cameIn(good) {
			missing += good.Value
		}
		if !good.Gone {
			missing -= good.Value
		}
	}
	return missing == 0
}

func (h *House) tellAudit(parameters) string {
	audit := h.Audit()
	word := "bad"
	if audit.Good {
		word = "good"
	}
	return word + " " + row(audit.Commands, audit.Goods, audit.Held, audit.Cleared, audit.Duty)
}
