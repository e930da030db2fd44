package house

import (
	"slices"
	"strconv"
	"strings"

	"cocket/api"
)

// House is a customs warehouse: what its commands have made, and the book of them.
type House struct {
	made     bool
	monies   []string // the first one is the money of the house
	offers   []api.Offer
	rules    []api.Rule
	formulas []formula
	charges  []charge
	goods    []api.Good
	legs     []api.Leg
	book     []string
}

// command is what the first word of a line names.
type command struct {
	name    string
	kinds   string // one for each parameter
	more    int    // how many parameters there may be beyond these, each of the last kind
	changes bool   // whether it changes the house
	do      func(h *House, p parameters) string
}

// many is more parameters than a line has.
const many = api.MaxLetters

func commands() []command {
	return []command{
		{name: "money", kinds: "a", changes: true, do: (*House).makeMoney},
		{name: "offer", kinds: "aa##", changes: true, do: (*House).makeOffer},
		{name: "band", kinds: "#####", changes: true, do: (*House).addRule},
		{name: "formula", kinds: "a*", more: many, changes: true, do: (*House).makeFormula},
		{name: "charge", kinds: "#a##", changes: true, do: (*House).writeCharge},
		{name: "enter", kinds: "a#a##", changes: true, do: (*House).enterGood},
		{name: "join", kinds: "aaa", more: 2, changes: true, do: (*House).joinGoods},
		{name: "clear", kinds: "a#", changes: true, do: (*House).clearGood},
		{name: "leg", kinds: "#####", changes: true, do: (*House).addLeg},
		{name: "rate", kinds: "aa", do: (*House).tellRate},
		{name: "round", do: (*House).tellRound},
		{name: "code", kinds: "##", do: (*House).tellCode},
		{name: "gap", do: (*House).tellGap},
		{name: "dead", do: (*House).tellDead},
		{name: "known", kinds: "###", do: (*House).tellKnown},
		{name: "charges", kinds: "##", do: (*House).tellCharges},
		{name: "due", kinds: "a#", do: (*House).tellDue},
		{name: "sources", kinds: "a", do: (*House).tellSources},
		{name: "divide", kinds: "###", more: api.MaxClaims - 1, do: (*House).tellShares},
		{name: "looks", kinds: "##", do: (*House).tellLooks},
		{name: "arrive", kinds: "###", do: (*House).tellArrival},
		{name: "audit", do: (*House).tellAudit},
		{name: "if", kinds: "*", more: many, do: (*House).tellWhatIf},
	}
}

// noLine is the reply of a line that is no command.
const noLine = "? line"

// understand returns the command that words make, or the reply if they make none.
func understand(words []string) (command, string) {
	list := commands()
	i := slices.IndexFunc(list, func(c command) bool { return c.name == words[0] })
	if i < 0 || !isWithin(len(words)-1, len(list[i].kinds), len(list[i].kinds)+list[i].more) {
		return command{}, noLine
	}
	for n, word := range words[1:] {
		if !isOfKind(word, list[i].kinds[min(n, len(list[i].kinds)-1)]) {
			return command{}, "? word " + strconv.Itoa(n+1)
		}
	}
	return list[i], ""
}

// answer is what becomes of a line.
type answer struct {
	reply string
	after *House    // the house that it makes, or nil if all stays as it is
	e     api.Errno // what Read says of it
}

// execute executes a line, and returns its reply and what Read says of it.
func (h *House) execute(line string) (string, api.Errno) {
	words, isLine := split(line)
	switch {
	case !isLine:
		return noLine, api.ErrForm
	case len(words) == 0:
		return "", api.ErrForm
	}
	a := h.answer(words)
	if a.after != nil {
		*h = *a.after
	}
	return a.reply, a.e
}

// answer returns what becomes of words, and leaves the house as it is.
func (h *House) answer(words []string) answer {
	c, fault := understand(words)
	if fault != "" {
		return answer{reply: fault, e: api.ErrForm}
	}
	if !c.changes {
		reply, _ := h.perform(c, words)
		return answer{reply: reply, e: api.ErrForm}
	}
	// A command may be refused after it has changed something.
	after := h.Copy()
	reply, e := after.perform(c, words)
	if e != api.OK {
		return answer{reply: reply, e: e}
	}
	return answer{reply: reply, after: after}
}

// refusal is what a refused command ends with, wherever it is.
type refusal api.Errno

// refuse ends the command if there is an error.
func refuse(e api.Errno) {
	if e != api.OK {
		panic(refusal(e))
	}
}

func refuseIf(is bool, e api.Errno) {
	if is {
		refuse(e)
	}
}

// perform does a command, and writes it down if it changes the house. It returns the reply, and the error of a refused command.
func (h *House) perform(c command, words []string) (reply string, e api.Errno) {
	defer func() {
		switch r := recover().(type) {
		case nil:
		case refusal:
			reply, e = "! "+strconv.Itoa(int(r)), api.Errno(r)
		default:
			panic(r)
		}
	}()
	reply = c.do(h, words[1:])
	if c.changes {
		refuseIf(len(h.book) >= api.MaxBook, api.ErrFull)
		h.book = append(h.book, strings.Join(words, " "))
	}
	return reply, api.OK
}

// tellWhatIf replies what a command would, and forgets the house that it would make.
func (h *House) tellWhatIf(p parameters) string {
	return h.answer(p).reply
}
