package house

import (
	"slices"
	"strconv"

	"cocket/api"
	"cocket/rate"
)

func (h *House) hasMoney(name string) bool {
	return slices.Contains(h.monies, name)
}

func (h *House) makeMoney(p parameters) string {
	refuseIf(h.hasMoney(p[0]), api.ErrExists)
	refuseIf(len(h.monies) >= api.MaxCurrencies, api.ErrFull)
	h.monies = append(h.monies, p[0])
	return "ok"
}

func (h *House) makeOffer(p parameters) string {
	refuseIf(!h.hasMoney(p[0]) || !h.hasMoney(p[1]), api.ErrNone)
	refuseIf(p[0] == p[1] || !areWithin(p.numbers(2), 1, api.MaxRate), api.ErrArg)
	refuseIf(len(h.offers) >= api.MaxOffers, api.ErrFull)
	h.offers = append(h.offers, api.Offer{From: h.currency(p[0]), To: h.currency(p[1]), Num: p.number(2), Den: p.number(3)})
	_, e := rate.Round(len(h.monies), h.offers)
	refuseIf(e == api.OK, api.ErrPlan)
	return "ok"
}

// currency returns the number that a money of the house has in layer 1.
func (h *House) currency(money string) int {
	return slices.Index(h.monies, money)
}

func (h *House) tellRate(p parameters) string {
	refuseIf(!h.hasMoney(p[0]) || !h.hasMoney(p[1]), api.ErrNone)
	return ratio(h.best(p[0], p[1]))
}

// best returns the best rate from one money of the house into another one.
func (h *House) best(from, to string) api.Ratio {
	if from == to {
		// Layer 1 has no offers for a single money, which is all that there may be here.
		return api.Ratio{Num: 1, Den: 1}
	}
	best, _, e := rate.Best(len(h.monies), h.offers, h.currency(from), h.currency(to))
	refuse(e)
	return best
}

// tellRound need not look for a round: an offer that would close one that gains was refused.
func (h *House) tellRound(parameters) string {
	return none + " " + strconv.Itoa(len(h.offers))
}
