package house_test

import (
	"fmt"
	"math"
	"math/rand/v2"
	"slices"
	"strings"
	"sync"
	"testing"

	"cocket/api"
	"cocket/house"
)

func TestNilHouses(t *testing.T) {
	for _, h := range []*house.House{nil, {}, new(house.House)} {
		for _, line := range []string{"", "money crown", "fly", "audit", "if money crown", "enter silk 0 none 0 0"} {
			if exec, run := h.Exec(line), h.Run(line+"\n"+line); exec != "" || run != "" {
				t.Errorf("%q: %q, %q", line, exec, run)
			}
		}
		if book, audit, twin := h.Book(), h.Audit(), h.Copy(); len(book) > 0 || audit != (api.Audit{}) || twin != nil {
			t.Errorf("%q, %v, %v", book, audit, twin != nil)
		}
		// This error comes before all others.
		for _, n := range []int{0, -1, 7, 100, math.MaxInt, math.MinInt} {
			if charges, e := h.Charges(n, n); len(charges) > 0 || e != api.ErrNil {
				t.Errorf("Charges: %v, error %d", charges, e)
			}
			if formula, e := h.Known(n, n, n); formula != "" || e != api.ErrNil {
				t.Errorf("Known: %q, error %d", formula, e)
			}
		}
		if good, e := h.Good("silk"); fmt.Sprint(good) != fmt.Sprint(api.Good{}) || e != api.ErrNil {
			t.Errorf("Good: %v, error %d", good, e)
		}
	}
}

// extremes are ints that are never within limits.
var extremes = []int{-1, math.MinInt, math.MaxInt, -1 << 32, 1 << 32, 1<<32 + 7}

func TestP10_7ErrorsInOrder(t *testing.T) {
	h := of(t, shop()...)
	count := len(h.Book())
	charges := func(code, known int, want api.Errno) {
		t.Helper()
		if list, e := h.Charges(code, known); e != want || e != api.OK && len(list) > 0 {
			t.Errorf("Charges(%d, %d): %v, error %d, want %d", code, known, list, e, want)
		}
	}
	known := func(code, day, known int, want api.Errno) {
		t.Helper()
		if formula, e := h.Known(code, day, known); e != want || (formula == "") != (e != api.OK) {
			t.Errorf("Known(%d, %d, %d): %q, error %d, want %d", code, day, known, formula, e, want)
		}
	}
	for _, code := range append([]int{100}, extremes...) {
		charges(code, count, api.ErrArg)
		charges(code, count+1, api.ErrArg)
		known(code, 5, count, api.ErrArg)
		known(code, -1, count, api.ErrArg)
		known(code, 5, -1, api.ErrArg)
	}
	for _, day := range append([]int{10000}, extremes...) {
		known(7, day, count, api.ErrArg)
		known(7, day, -1, api.ErrArg)
		known(7, day, count+1, api.ErrArg)
	}
	for _, n := range append([]int{count + 1}, extremes...) {
		charges(7, n, api.ErrRange)
		charges(99, n, api.ErrRange)
		known(7, 5, n, api.ErrRange)
		known(7, 9999, n, api.ErrRange)
	}
	charges(0, 0, api.OK)
	charges(99, count, api.OK)
	known(7, 5, count, api.OK)
	known(7, 5, 0, api.ErrNone)
	known(0, 0, count, api.ErrNone)
	known(99, 9999, count, api.ErrNone)
	says(t, h, "known 100 5 -1", "! 2", "known 7 10000 -1", "! 2", "known 7 5 -1", "! 4", "known 7 5 16", "! 4", "known 7 9999 15", "! 6", "charges 100 -1", "! 2", "charges 7 -1", "! 4", "charges 7 16", "! 4", "known 7 5 15", "ten")
}

// Of several errors of a command, the one that the chapter names first is its reply.
func TestP10_4to10_9ErrorsInOrder(t *testing.T) {
	h := fullHouse(t)
	says(t, h,
		"money naaa", "! 7",
		"offer x naaa 0 0", "! 6", "offer naaa naaa 0 0", "! 2", "offer naaa naab 0 1", "! 2", "offer naab naaa 50 1", "! 8",
		"band 1 1 0 0 0", "! 2", "formula naaa x", "! 7", "formula x x", "! 5",
		"charge -1 x 5 4", "! 6", "charge -1 naaa 5 4", "! 2",
		"enter naaa 0 x -1 -1", "! 7", "enter x 0 x -1 -1", "! 6", "enter x 0 naaa -1 -1", "! 2",
		"join naaa naaa naaa", "! 7", "join x naaa naaa", "! 2", "join x naaa y", "! 9", "join x y naaa", "! 6",
		"clear x -1", "! 6", "clear naaa -1", "! 9", "due x -1", "! 6", "due naaa -1", "! 2", "leg 0 0 0 0 0", "! 2")
	h = of(t, "money a", "money b", "enter p 600000 a 0 0", "enter q 600000 b 0 0", "enter r 600000 a 0 0", "enter s 600000 a 0 1")
	says(t, h, "join x p q", "! 10", "join x p s", "! 10", "join x p r", "! 2", "due q 5", "! 10", "due p 5", "! 6", "due q -5", "! 2")
	does(t, h, numbered(56, "enter %s 600000 a 0 0")...)
	says(t, h, "join x naaa q", "! 10", "join x naaa naab", "! 2")
}

// words that lines are made of, so that some of them nearly are commands
func words() []string {
	list := append(commandNames(), "if", "if", "crown", "florin", "silk", "lace", "ten", "7", "0", "1", "-1", "5", "1125899906842624", "-1125899906842624", "9223372036854775807", "in v 0 9;out v", ";", "out", "\t", "\x00", "é", "Silk", "", " ")
	return list
}

func TestP1AnyLines(t *testing.T) {
	r := rand.New(rand.NewPCG(1, 10))
	list := words()
	commands := 0
	for range 300 {
		h := of(t, shop()...)
		for range 300 {
			var line []string
			for range 1 + r.IntN(7) {
				line = append(line, list[r.IntN(len(list))])
			}
			reply := h.Exec(strings.Join(line, " "))
			if !isBad(reply) {
				commands++
			}
			if strings.Contains(reply, "\n") || !h.Audit().Good {
				t.Fatalf("%q: %q", line, reply)
			}
		}
	}
	if commands < 1000 {
		t.Errorf("only %d commands", commands)
	}
	for range 20000 {
		text := make([]byte, r.IntN(40))
		for i := range text {
			text[i] = byte(r.Uint32())
		}
		house.New().Run(string(text))
		house.Read(strings.Split(string(text), " "))
	}
}

// Every number of every command at the ends of what a number may be, and of what an int may be.
func TestP1ExtremeNumbers(t *testing.T) {
	ends := []string{"1125899906842624", "-1125899906842624", "1125899906842623", "2147483648", "4294967296", "-1", "0", "1", "999", "1000", "1000000", "9223372036854775807", "-9223372036854775808"}
	h := of(t, shop()...)
	for _, shape := range shapes() {
		parameters := strings.Fields(shape)
		for i := 1; i < len(parameters); i++ {
			for _, end := range ends {
				line := slices.Clone(parameters)
				line[i] = end
				h.Copy().Exec(strings.Join(line, " "))
				for j := range line[1:] {
					if line[j+1][0] <= '9' {
						line[j+1] = end
					}
				}
				h.Copy().Exec(strings.Join(line, " "))
			}
		}
	}
}

// What takes longest: everything at its limits.
func TestP1MostWork(t *testing.T) {
	inTime(t, "a full house", func() {
		h := fullHouse(t)
		for range 300 {
			for _, line := range []string{"offer naaa naab 1 2", "dead", "gap", "charges 7 322", "due naaa 50", "arrive 0 5 0", "rate naaf naaa", "looks 14 7", "divide 4 99999 99999 99998 99997 99996 99995 99994 99993", "clear naaa 0", strings.Repeat("if ", 98) + "gap", strings.Repeat("if ", 98) + "leg 0 1 2 3 4"} {
				h.Exec(line)
			}
			h.Audit()
			h.Copy()
		}
		house.Read(h.Book())
	})
	inTime(t, "a chain of goods", func() {
		h := of(t, "money a")
		does(t, h, numbered(30, "enter %s 1 a 0 0")...)
		last := nameOf(0)
		for i := 1; i < 30; i++ {
			name := nameOf(100 + i)
			does(t, h, "join "+name+" "+last+" "+nameOf(i))
			last = name
		}
		if got := len(strings.Fields(h.Exec("sources " + last))); got != 30 {
			t.Errorf("%d sources", got)
		}
	})
	inTime(t, "offers", func() {
		h := of(t, numbered(6, "money %s")...)
		for i := 0; len(h.Book()) < 6+39; i++ { // seven from each one to the next one
			does(t, h, fmt.Sprintf("offer %s %s 1 %d", nameOf(i%6), nameOf((i+1)%6), 1+i/6))
		}
		for range 100 {
			says(t, h, "offer naaf naaa 2 1", "! 10", "offer naac naad 50 1", "! 10")
		}
	})
	inTime(t, "a formula", func() {
		h := house.New()
		for range 200 {
			says(t, h, "if formula f in v 1 9;set d = 0;repeat 50;repeat 50;set a = v;set b = a;set c = b;set d = min(max(c, a), d + b * 3 / 2);end;end;out d", "1 9", "if formula f in v 1 9;repeat 50;repeat 50;repeat 7;set d = v;end;end;end;out v", "! 13")
		}
	})
	inTime(t, "long texts", func() {
		h := house.New()
		if got := h.Run(strings.Repeat("\n", 1<<22)); got != "" {
			t.Errorf("%q", got)
		}
		h.Run(strings.Repeat(" ", 1<<22) + "\n" + strings.Repeat("x", 1<<22))
		if got := h.Run(strings.Repeat("money a\n", 1<<16)); len(got) != 3+4*(1<<16-1) {
			t.Errorf("%d bytes", len(got))
		}
	})
}

func TestP2OnlyArguments(t *testing.T) {
	texts := make([]string, 40)
	for i := range texts {
		r := rand.New(rand.NewPCG(2, uint64(i)))
		h := house.New()
		w := newWriter(r, h)
		for range 200 {
			line := w.line()
			h.Exec(line)
			texts[i] += line + "\n"
		}
	}
	once := make([]string, len(texts))
	var workers sync.WaitGroup
	for i, text := range texts {
		workers.Go(func() {
			h := house.New()
			once[i] = h.Run(text) + state(h)
		})
	}
	workers.Wait()
	for i, text := range slices.Backward(texts) {
		h := house.New()
		if again := h.Run(text) + state(h); again != once[i] {
			t.Errorf("%q: %q, and then %q", text, once[i], again)
		}
	}
}

func TestResultsAreNew(t *testing.T) {
	h := of(t, append(shop(), "join cloth silk lace", "clear cloth 5")...)
	before := state(h)
	for range 2 {
		book := h.Book()
		for i := range book {
			book[i] = "x"
		}
		_ = append(book[:3], "y")
		charges, _ := h.Charges(7, 15)
		for i := range charges {
			charges[i] = api.Charge{}
		}
		for _, name := range goodsOf(h) {
			good, _ := h.Good(name)
			for i := range good.Marks {
				good.Marks[i] = -7
			}
			for i := range good.From {
				good.From[i] = "x"
			}
			_ = append(append(good.Marks[:1], 8), len(append(good.From[:0], "y")))
		}
		if after := state(h); after != before {
			t.Fatalf("%s, want %s", after, before)
		}
		h = h.Copy()
	}
}

func TestArgumentsStay(t *testing.T) {
	book := append(shop(), "join cloth silk lace")
	before := slices.Clone(book)
	h := readAgain(t, book)
	if !slices.Equal(book, before) {
		t.Errorf("%q, want %q", book, before)
	}
	want := state(h)
	for i := range book {
		book[i] = "money x"
	}
	if got := state(h); got != want {
		t.Errorf("%s, want %s", got, want)
	}
}

// A house that Read refuses to make, or a reply, leaves nothing behind for the next one.
func TestHousesAreApart(t *testing.T) {
	h := of(t, shop()...)
	before := state(h)
	house.Read(append(shop(), "fly"))
	readAgain(t, append(shop(), "money pound"))
	does(t, house.New(), "money crown", "money pound")
	if after := state(h); after != before {
		t.Errorf("%s, want %s", after, before)
	}
}
