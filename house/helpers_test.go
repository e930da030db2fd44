package house_test

import (
	"fmt"
	"math/rand/v2"
	"runtime/debug"
	"slices"
	"strings"
	"testing"
	"time"

	"cocket/api"
	"cocket/house"
)

// The tests call the package only as its users do, and hold it against a slow house of their own (slow_test.go).

// The houses of the tests are small and many: it is not worth it to collect what is left of each one soon.
func TestMain(m *testing.M) {
	debug.SetGCPercent(1000)
	m.Run()
}

// says executes lines, each followed by the reply that it has to have.
func says(t *testing.T, h *house.House, linesAndReplies ...string) {
	t.Helper()
	for i := 0; i < len(linesAndReplies); i += 2 {
		line, want := linesAndReplies[i], linesAndReplies[i+1]
		if got := h.Exec(line); got != want {
			t.Errorf("%q: %q, want %q", line, got, want)
		}
	}
}

// does executes lines that have to be neither refused nor misunderstood.
func does(t *testing.T, h *house.House, lines ...string) {
	t.Helper()
	for _, line := range lines {
		if reply := h.Exec(line); isBad(reply) {
			t.Fatalf("%q: %q", line, reply)
		}
	}
}

// of returns a house of which these lines were executed.
func of(t *testing.T, lines ...string) *house.House {
	t.Helper()
	h := house.New()
	does(t, h, lines...)
	return h
}

func isBad(reply string) bool {
	return strings.HasPrefix(reply, "?") || strings.HasPrefix(reply, "!")
}

// shop is the lines of a house with two monies, a tariff with a gap, two formulas, and some goods.
func shop() []string {
	return []string{
		"money crown", "money florin", "offer florin crown 5 2", "offer crown florin 1 3",
		"band 0 500 0 1000 7", "band 500 900 0 1000 8",
		"formula ten in v 0 100000;set d = v / 10;out d", "formula half in v 0 100000;set d = v / 2;out d",
		"charge 7 ten 0 100", "charge 7 half 40 60",
		"enter silk 40 florin 3 9", "enter lace 7 florin 3 9", "enter wool 100 crown 3 9", "enter lead 10 crown 950 0", "enter tin 10 crown 600 0",
	}
}

// numbered returns lines with a %d in them for each number below count, or a %s for a name made of it.
func numbered(count int, format string) []string {
	var lines []string
	for i := range count {
		if strings.Contains(format, "%s") {
			lines = append(lines, fmt.Sprintf(format, nameOf(i)))
		} else {
			lines = append(lines, fmt.Sprintf(format, i))
		}
	}
	return lines
}

// nameOf returns a name for a number: another one for each below 17576.
func nameOf(i int) string {
	return "n" + string([]byte{byte('a' + i/676%26), byte('a' + i/26%26), byte('a' + i%26)})
}

// state is what of a house can be seen.
func state(h *house.House) string {
	var text strings.Builder
	fmt.Fprintln(&text, h.Book(), h.Audit())
	for _, line := range []string{"round", "gap", "dead", "audit"} {
		fmt.Fprintln(&text, h.Exec(line))
	}
	for _, name := range goodsOf(h) {
		good, e := h.Good(name)
		fmt.Fprintln(&text, good, e, h.Exec("sources "+name), h.Exec("due "+name+" 50"))
	}
	commands := len(h.Book())
	for code := range 12 {
		charges, e := h.Charges(code, commands)
		fmt.Fprintln(&text, charges, e)
	}
	for _, from := range moniesOf(h) {
		for _, to := range moniesOf(h) {
			fmt.Fprintln(&text, h.Exec("rate "+from+" "+to))
		}
	}
	for from := range api.MaxPlaces {
		fmt.Fprintln(&text, h.Exec(fmt.Sprintf("arrive %d %d 0", from, (from+1)%api.MaxPlaces)))
	}
	return text.String()
}

// namesOf returns the first parameters of some commands of the book.
func namesOf(h *house.House, commands ...string) []string {
	var names []string
	for _, line := range h.Book() {
		if words := strings.Fields(line); slices.Contains(commands, words[0]) {
			names = append(names, words[1])
		}
	}
	return names
}

func goodsOf(h *house.House) []string  { return namesOf(h, "enter", "join") }
func moniesOf(h *house.House) []string { return namesOf(h, "money") }

// stays fails if the line changes what can be seen of the house.
func stays(t *testing.T, h *house.House, line string) {
	t.Helper()
	before := state(h)
	reply := h.Exec(line)
	if after := state(h); after != before {
		t.Errorf("%q: %q, and the house changes from\n%s\nto\n%s", line, reply, before, after)
	}
}

// readAgain returns the house that Read makes of lines that have no error.
func readAgain(t *testing.T, book []string) *house.House {
	t.Helper()
	h, n, e := house.Read(book)
	if h == nil || n != 0 || e != api.OK {
		t.Fatalf("Read of %q: line %d, error %d", book, n, e)
	}
	return h
}

// inTime fails if it takes longer than a minute.
func inTime(t *testing.T, what string, do func()) {
	t.Helper()
	done := make(chan bool)
	go func() {
		defer close(done)
		do()
	}()
	select {
	case <-done:
	case <-time.After(time.Minute):
		t.Fatalf("%s takes too long", what)
	}
}

// houses makes random houses, each by so many random lines, and calls step before each of them. Of the commands, these are often written.
func houses(t *testing.T, count, lines int, step func(h *house.House, line string), often ...string) {
	t.Helper()
	for seed := range count {
		r := rand.New(rand.NewPCG(10, uint64(seed)))
		h := house.New()
		w := newWriter(r, h, often...)
		for range lines {
			line := w.line()
			step(h, line)
			h.Exec(line)
			if t.Failed() {
				t.Fatalf("seed %d, book %q", seed, h.Book())
			}
		}
	}
}
