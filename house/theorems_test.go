package house_test

import (
	"fmt"
	"math/rand/v2"
	"slices"
	"strconv"
	"strings"
	"testing"

	"cocket/api"
	"cocket/house"
	"cocket/rate"
)

// after calls step with random houses after each line, with what they were before and the reply.
func after(t *testing.T, count, lines int, step func(before, h *house.House, line, reply string), often ...string) {
	t.Helper()
	houses(t, count, lines, func(h *house.House, line string) {
		twin := h.Copy()
		reply := twin.Exec(line)
		step(h, twin, line, reply)
	}, often...)
}

func TestP10_12NothingIsLost(t *testing.T) {
	t.Parallel()
	held, cleared := 0, 0
	after(t, 150, 400, func(_, h *house.House, line, _ string) {
		audit := h.Audit()
		there := map[string]int{}
		for _, name := range goodsOf(h) {
			good, _ := h.Good(name)
			if len(good.From) == 0 {
				there[good.Money] += good.Value
			}
			if !good.Gone {
				there[good.Money] -= good.Value
			}
		}
		for money, missing := range there {
			if missing != 0 {
				t.Fatalf("%q: %d of %s are missing", line, missing, money)
			}
		}
		if !audit.Good || !strings.HasPrefix(h.Exec("audit"), "good ") {
			t.Fatalf("%q: %v, %q", line, audit, h.Exec("audit"))
		}
		held, cleared = held+audit.Held, cleared+audit.Cleared
	})
	if held < 10000 || cleared < 10000 {
		t.Errorf("only %d held, %d cleared", held, cleared)
	}
}

// knowledge is what is known after so many commands.
func knowledge(h *house.House, known int) string {
	var text strings.Builder
	for _, code := range []int{0, 1, 2, 3, 99} {
		charges, e := h.Charges(code, known)
		fmt.Fprintln(&text, charges, e)
		for day := 0; day < 70; day += 3 {
			formula, e := h.Known(code, day, known)
			fmt.Fprintln(&text, formula, e)
		}
	}
	return text.String()
}

func TestP10_13TwoTimes(t *testing.T) {
	t.Parallel()
	seen := map[int]string{} // what was known when the book had so many commands
	changed := 0
	houses(t, 60, 300, func(h *house.House, _ string) {
		count := len(h.Book())
		if count == 0 {
			seen = map[int]string{0: knowledge(h, 0)}
		}
		if _, is := seen[count]; is {
			return
		}
		seen[count] = knowledge(h, count)
		if seen[count] != seen[count-1] {
			changed++
		}
		for known := range count + 1 {
			if known < count-3 && known%17 != 0 {
				continue
			}
			if got := knowledge(h, known); got != seen[known] {
				t.Fatalf("after %d of %d: %s, want %s", known, count, got, seen[known])
			}
			again := readAgain(t, h.Book()[:known])
			if got := knowledge(again, known); got != seen[known] {
				t.Fatalf("of the first %d of %d: %s, want %s", known, count, got, seen[known])
			}
		}
	}, "charge", "formula")
	if changed < 500 {
		t.Errorf("only %d charges", changed)
	}
}

// lastCharge returns the formula of the last charge command, of the first so many, that has this day in it.
func lastCharge(book []string, code, day int) string {
	for _, line := range slices.Backward(book) {
		words := strings.Fields(line)
		if words[0] == "charge" && words[1] == strconv.Itoa(code) && slowInt(words[3]) <= day && day < slowInt(words[4]) {
			return words[2]
		}
	}
	return ""
}

func TestP10_14OneChargeAtATime(t *testing.T) {
	t.Parallel()
	many := 0
	step := 0
	houses(t, 100, 400, func(h *house.House, _ string) {
		if step++; step%30 != 0 {
			return
		}
		book := h.Book()
		known := step % (len(book) + 1)
		for code := range 5 {
			charges, _ := h.Charges(code, known)
			many += len(charges)
			for i, c := range charges {
				if c.From < 0 || c.From >= c.To || c.To > api.MaxDay || c.Formula == "" {
					t.Fatalf("%v", charges)
				}
				if i > 0 && (charges[i-1].To > c.From || charges[i-1].To == c.From && charges[i-1].Formula == c.Formula) {
					t.Fatalf("%v", charges)
				}
			}
			for day := range 140 {
				want := lastCharge(book[:known], code, day)
				formula, e := h.Known(code, day, known)
				at := slices.IndexFunc(charges, func(c api.Charge) bool { return c.From <= day && day < c.To })
				if formula != want || (e == api.OK) != (want != "") || (at >= 0) != (want != "") || at >= 0 && charges[at].Formula != want {
					t.Fatalf("code %d, day %d, after %d: %q, error %d, %v, want %q", code, day, known, formula, e, charges, want)
				}
			}
		}
	}, "charge", "formula")
	if many < 1000 {
		t.Errorf("only %d charges", many)
	}
}

func TestP10_15Joining(t *testing.T) {
	t.Parallel()
	joined := 0
	after(t, 200, 400, func(before, h *house.House, line, reply string) {
		words := strings.Fields(line)
		if reply != "ok" || words[0] != "join" {
			return
		}
		joined++
		var want []string
		for _, part := range words[2:] {
			want = append(want, strings.Fields(before.Exec("sources "+part))...)
		}
		slices.Sort(want)
		if got := h.Exec("sources " + words[1]); got != strings.Join(want, " ") {
			t.Fatalf("%q: %q, want %q", line, got, want)
		}
		if got, want := sums(h), sums(before); fmt.Sprint(got) != fmt.Sprint(want) {
			t.Fatalf("%q: %v, want %v", line, got, want)
		}
	}, "join")
	if joined < 500 {
		t.Errorf("only %d joins", joined)
	}
}

// sums returns the sums of the values of the goods that are held.
func sums(h *house.House) map[string]int {
	list := map[string]int{}
	for _, name := range goodsOf(h) {
		if good, _ := h.Good(name); !good.Gone && !good.Cleared {
			list[good.Money] += good.Value
		}
	}
	return list
}

func TestP10_16ReadAgain(t *testing.T) {
	t.Parallel()
	for seed := range 60 {
		r := rand.New(rand.NewPCG(16, uint64(seed)))
		h := house.New()
		w := newWriter(r, h)
		for range 100 {
			for range r.IntN(6) {
				h.Exec(w.line())
			}
			again := readAgain(t, h.Book())
			if !slices.Equal(again.Book(), h.Book()) || again.Audit() != h.Audit() || state(again) != state(h) {
				t.Fatalf("%s, want %s", state(again), state(h))
			}
			if r.IntN(20) > 0 {
				continue
			}
			twin := h.Copy()
			for range 60 {
				line := w.line()
				if got, want := again.Exec(line), twin.Exec(line); got != want {
					t.Fatalf("%q: %q, want %q", line, got, want)
				}
			}
			if state(again) != state(twin) {
				t.Fatalf("%s, want %s", state(again), state(twin))
			}
		}
	}
}

func TestP10_17WhatChangesNothing(t *testing.T) {
	t.Parallel()
	changes := []string{"money", "offer", "band", "formula", "charge", "enter", "join", "clear", "leg"}
	bad, looks, ifs, done := 0, 0, 0, 0
	after(t, 60, 400, func(before, h *house.House, line, reply string) {
		words := strings.Fields(line)
		if len(words) == 0 {
			words = []string{""}
		}
		if reply != "" && len(line) < 290 {
			if got := before.Exec("if " + line); got != reply {
				t.Fatalf("%q: %q, with if before it %q", line, reply, got)
			}
		}
		isChange := slices.Contains(changes, words[0]) && !isBad(reply)
		if isChange {
			done++
			if want := append(before.Book(), strings.Join(words, " ")); !slices.Equal(h.Book(), want) {
				t.Fatalf("%q: %q, want %q", line, h.Book(), want)
			}
			return
		}
		switch {
		case words[0] == "if":
			ifs++
		case isBad(reply):
			bad++
		default:
			looks++
		}
		if got, want := state(h), state(before); got != want {
			t.Fatalf("%q: %q, and the house changes from %s to %s", line, reply, want, got)
		}
	})
	if bad < 1000 || looks < 1000 || ifs < 1000 || done < 1000 {
		t.Errorf("only %d bad ones, %d that look, %d with if, %d done", bad, looks, ifs, done)
	}
}

// offersOf returns the offers of the book, with the line as one more.
func offersOf(h *house.House, line string) []api.Offer {
	monies := moniesOf(h)
	var offers []api.Offer
	for _, line := range append(h.Book(), line) {
		if words := strings.Fields(line); len(words) == 5 && words[0] == "offer" {
			offers = append(offers, api.Offer{From: slices.Index(monies, words[1]), To: slices.Index(monies, words[2]), Num: slowInt(words[3]), Den: slowInt(words[4])})
		}
	}
	return offers
}

func TestP10_18NoGain(t *testing.T) {
	t.Parallel()
	taken, refused := 0, 0
	after(t, 150, 400, func(before, h *house.House, line, reply string) {
		if want := fmt.Sprint("none ", len(offersOf(h, ""))); h.Exec("round") != want {
			t.Fatalf("%q: %q, want %q", line, h.Exec("round"), want)
		}
		if !strings.HasPrefix(line, "offer ") || reply != "ok" && reply != "! 10" {
			return
		}
		_, e := rate.Round(max(2, len(moniesOf(before))), offersOf(before, line))
		if (e == api.OK) != (reply == "! 10") {
			t.Fatalf("%q: %q, with a round: %v", line, reply, e == api.OK)
		}
		if reply == "ok" {
			taken++
		} else {
			refused++
		}
	}, "offer")
	if taken < 300 || refused < 300 {
		t.Errorf("only %d taken, %d refused", taken, refused)
	}
}

// The duty is within the bounds that formula replied, and there is one if the worth is within the bounds of the input.
func TestP10_18DutiesAreWithinBounds(t *testing.T) {
	t.Parallel()
	within, without := 0, 0
	for seed := range 400 {
		r := rand.New(rand.NewPCG(18, uint64(seed)))
		h := of(t, "money a", "money b", "offer b a 7 3", "band 0 1000 0 1000 0", "band 0 1 0 1 1")
		w := newWriter(r, h)
		source := w.source()
		reply := h.Exec("formula f " + source)
		if isBad(reply) {
			continue
		}
		bounds := slowInts(strings.Fields(reply))
		inputs := slowInts(strings.Fields(strings.Split(source, ";")[0])[2:])
		does(t, h, "charge 0 f 0 10")
		for i := range 50 {
			value, money := 1+r.IntN(3000), "a"
			if r.IntN(2) == 0 {
				value = min(1000000, max(1, inputs[r.IntN(2)]+r.IntN(3)-1))
			}
			worth := value
			if r.IntN(2) == 0 {
				money, worth = "b", value*7/3
			}
			name := nameOf(i)
			does(t, h, fmt.Sprintf("enter %s %d %s 5 5", name, value, money))
			reply := h.Exec("due " + name + " 5")
			if inputs[0] > worth || worth > inputs[1] {
				without++
				if reply != "! 2" {
					t.Fatalf("%s, worth %d: %q", source, worth, reply)
				}
				continue
			}
			within++
			if isBad(reply) || slowInt(reply) < bounds[0] || slowInt(reply) > bounds[1] {
				t.Fatalf("%s, worth %d: %q, bounds %v", source, worth, reply, bounds)
			}
			says(t, h, "clear "+name+" 5", reply)
		}
	}
	if within < 1000 || without < 1000 {
		t.Errorf("only %d within, %d without", within, without)
	}
}
