package house

import (
	"strconv"

	"cocket/api"
	"cocket/inspect"
	"cocket/quota"
	"cocket/route"
)

// The timetable of the house has all places, between which a change takes no time.
const (
	places = api.MaxPlaces
	change = 0
)

func (h *House) addLeg(p parameters) string {
	leg := api.Leg{From: p.number(0), To: p.number(1), Dep: p.number(2), Arr: p.number(3), Line: p.number(4)}
	_, e := route.Is(places, []api.Leg{leg}, change, 0, 0, 0, nil)
	refuse(e)
	refuseIf(len(h.legs) >= api.MaxLegs, api.ErrFull)
	h.legs = append(h.legs, leg)
	return "ok"
}

func (h *House) tellArrival(p parameters) string {
	arrival, _, e := route.Earliest(places, h.legs, change, p.number(0), p.number(1), p.number(2))
	refuse(e)
	return strconv.Itoa(arrival)
}

func (h *House) tellShares(p parameters) string {
	shares, e := quota.Share(p.number(0), p.number(1), p.numbers(2))
	refuse(e)
	return row(shares.Num...) + " / " + strconv.Itoa(shares.Den)
}

func (h *House) tellLooks(p parameters) string {
	gain, e := inspect.Dresher(p.number(0), p.number(1))
	refuse(e)
	return ratio(gain)
}
