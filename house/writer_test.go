package house_test

import (
	"fmt"
	"math/rand/v2"
	"strings"

	"cocket/house"
)

// writer writes random lines: most of them are commands that a house with a history might take, some are not.
type writer struct {
	r        *rand.Rand
	h        *house.House // of which it knows what goods there are
	monies   int          // how many names of monies it knows, and so on
	formulas int
	goods    int
	codes    int
	marks    int // the greatest mark that it uses often
	days     int
	gentle   bool // whether it makes no offers that are likely to gain
	weights  map[string]int
}

func newWriter(r *rand.Rand, h *house.House, often ...string) *writer {
	w := &writer{r: r, h: h, monies: 1 + r.IntN(7), formulas: 1 + r.IntN(20), goods: 3 + r.IntN(150), codes: 1 + r.IntN(4), marks: r.IntN(6) * r.IntN(2), days: 5 + r.IntN(60), gentle: r.IntN(3) > 0}
	w.weights = map[string]int{}
	for _, name := range commandNames() {
		w.weights[name] = 1 + r.IntN(9)
	}
	for _, name := range []string{"enter", "join", "charge", "clear"} {
		w.weights[name] += 8
	}
	for _, name := range often {
		w.weights[name] += 40
		w.gentle = w.gentle && name != "offer"
	}
	// Every other writer is likely to come to a limit.
	if favourites := []string{"money", "offer", "band", "formula", "charge", "enter", "leg"}; r.IntN(2) == 0 {
		w.weights[favourites[r.IntN(len(favourites))]] += 100
	}
	return w
}

func commandNames() []string {
	return []string{"money", "offer", "band", "formula", "charge", "enter", "join", "clear", "leg", "rate", "round", "code", "gap", "dead", "known", "charges", "due", "sources", "divide", "looks", "arrive", "audit"}
}

// line writes a line.
func (w *writer) line() string {
	switch w.r.IntN(25) {
	case 0:
		return w.spoil(w.command())
	case 1:
		return w.loosen(w.command())
	case 2:
		return "if " + w.command()
	case 3:
		return "if if " + w.spoil(w.command())
	}
	return w.command()
}

// command writes a command.
func (w *writer) command() string {
	sum := 0
	for _, name := range commandNames() {
		sum += w.weights[name]
	}
	at := w.r.IntN(sum)
	for _, name := range commandNames() {
		if at -= w.weights[name]; at < 0 {
			return w.commandOf(name)
		}
	}
	return ""
}

func (w *writer) commandOf(name string) string {
	switch name {
	case "money":
		return name + " " + w.money()
	case "offer":
		return fmt.Sprint(name, " ", w.money(), " ", w.money(), " ", w.offer())
	case "band":
		return fmt.Sprint(name, " ", w.band(), " ", w.band(), " ", w.code())
	case "formula":
		return fmt.Sprint(name, " ", w.formula(), " ", w.source())
	case "charge":
		return fmt.Sprint(name, " ", w.code(), " ", w.formula(), " ", w.days2())
	case "enter":
		return fmt.Sprint(name, " ", w.good(), " ", w.value(), " ", w.money(), " ", w.mark(), " ", w.mark())
	case "join":
		return name + " " + w.good() + " " + w.parts(2+w.r.IntN(3)*w.r.IntN(2))
	case "clear", "due":
		return fmt.Sprint(name, " ", w.stored(), " ", w.day())
	case "leg":
		dep := w.r.IntN(60)
		return fmt.Sprint(name, " ", w.r.IntN(9), " ", w.r.IntN(9), " ", dep, " ", dep+w.r.IntN(20), " ", w.r.IntN(22))
	}
	return w.look(name)
}

// look writes a command that only looks.
func (w *writer) look(name string) string {
	switch name {
	case "rate":
		return name + " " + w.money() + " " + w.money()
	case "code":
		return fmt.Sprint(name, " ", w.mark(), " ", w.mark())
	case "known":
		return fmt.Sprint(name, " ", w.code(), " ", w.day(), " ", w.known())
	case "charges":
		return fmt.Sprint(name, " ", w.code(), " ", w.known())
	case "sources":
		return name + " " + w.stored()
	case "divide":
		line := fmt.Sprint(name, " ", w.r.IntN(6), " ", w.r.IntN(300))
		for range 1 + w.r.IntN(7) {
			line += fmt.Sprint(" ", w.r.IntN(200))
		}
		return line
	case "looks":
		return fmt.Sprint(name, " ", w.r.IntN(16), " ", w.r.IntN(16))
	case "arrive":
		return fmt.Sprint(name, " ", w.r.IntN(9), " ", w.r.IntN(9), " ", w.r.IntN(60))
	}
	return name
}

func (w *writer) money() string {
	return "m" + nameOf(w.r.IntN(w.monies))[1:]
}

func (w *writer) formula() string {
	return "f" + nameOf(w.r.IntN(w.formulas))[1:]
}

func (w *writer) good() string {
	return "g" + nameOf(w.r.IntN(w.goods))[1:]
}

// stored writes a name that is mostly one of goods that there are.
func (w *writer) stored() string {
	names := goodsOf(w.h)
	if len(names) == 0 || w.r.IntN(4) == 0 {
		return w.good()
	}
	return names[w.r.IntN(len(names))]
}

// parts writes names of goods that are to be joined: mostly of some that are held and alike.
func (w *writer) parts(count int) string {
	var names []string
	for range count {
		names = append(names, w.good())
	}
	if w.r.IntN(4) == 0 {
		return strings.Join(names, " ")
	}
	groups := map[string][]string{}
	var kinds []string
	for _, name := range goodsOf(w.h) {
		good, _ := w.h.Good(name)
		kind := fmt.Sprint(good.Money, good.Marks)
		if good.Gone || good.Cleared {
			continue
		}
		if groups[kind] = append(groups[kind], name); len(groups[kind]) == count {
			kinds = append(kinds, kind)
		}
	}
	if len(kinds) > 0 {
		group := groups[kinds[w.r.IntN(len(kinds))]]
		for i, at := range w.r.Perm(len(group))[:count] {
			names[i] = group[at]
		}
	}
	return strings.Join(names, " ")
}

// offer writes a rate: a gentle one is below 1, so that no round gains.
func (w *writer) offer() string {
	num, den := 1+w.r.IntN(50), 1+w.r.IntN(50)
	if w.gentle {
		num, den = min(num, den), max(num, den)
	}
	if w.r.IntN(20) == 0 {
		num = []int{0, 51, -1, 1 << 40}[w.r.IntN(4)]
	}
	return fmt.Sprint(num, " ", den)
}

func (w *writer) mark() int {
	if w.r.IntN(12) == 0 {
		return []int{-1, 999, 1000, 500, 1 << 50}[w.r.IntN(5)]
	}
	return w.r.IntN(w.marks + 1)
}

func (w *writer) band() string {
	low := w.r.IntN(w.marks + 1)
	high := low + w.r.IntN(w.marks+2)
	if w.r.IntN(6) == 0 {
		high = []int{1000, 1001, 999, low}[w.r.IntN(4)]
	}
	return fmt.Sprint(low, " ", high)
}

func (w *writer) code() int {
	if w.r.IntN(20) == 0 {
		return []int{-1, 100, 99, 1 << 50}[w.r.IntN(4)]
	}
	return w.r.IntN(w.codes)
}

func (w *writer) day() int {
	if w.r.IntN(20) == 0 {
		return []int{-1, 9999, 10000, -(1 << 50)}[w.r.IntN(4)]
	}
	return w.r.IntN(w.days)
}

// known writes after how many commands of the book, or one too many.
func (w *writer) known() int {
	return w.r.IntN(len(w.h.Book())+3) - 1
}

// days2 writes from which day on and before which one.
func (w *writer) days2() string {
	from := w.r.IntN(w.days)
	to := from + w.r.IntN(w.days)
	if w.r.IntN(8) == 0 {
		to = []int{10000, 10001, from, 1 << 50}[w.r.IntN(4)]
	}
	return fmt.Sprint(from, " ", to)
}

func (w *writer) value() int {
	switch w.r.IntN(12) {
	case 0:
		return []int{0, -5, 1000000, 1000001, 1, 999999}[w.r.IntN(6)]
	case 1:
		return 1 + w.r.IntN(1000000)
	}
	return 1 + w.r.IntN(3000)
}

// source writes the source of a formula: of most kinds some are fit.
func (w *writer) source() string {
	low, high := w.r.IntN(3)*w.r.IntN(100), w.r.IntN(200000)
	n := 1 + w.r.IntN(40)
	body := []string{
		"set d = v / %d;out d", "set d = v * %d / 100;out d", "out v", "set d = min(v, %d);out d", "set d = max(v - %d, 0);out d",
		"if v < %d;set d = 3;else;set d = v / 7;end;out d", "set d = 0;repeat 3;set d = d + v / %d;end;out d", "set d = 0 - v;out d",
		"repeat 50;repeat 50;repeat 50;set d = 1;end;end;end;out v", "set d = %d / v;out d", "set d = %d / (v - 20);out d", "out v;out v", "if v < %d;out v;end", "repeat 1;out v;end", "set d = v", "out z", "set d = v * v * v;out d", "set d = = %d;out d", "if v = %d;set d = 1 / 0;end;out v", "set d = 1 / 0;out d",
	}[min(w.r.IntN(20), w.r.IntN(20))]
	if strings.Contains(body, "%d") {
		body = fmt.Sprintf(body, n)
	}
	if w.r.IntN(15) == 0 {
		body = "in w 0 9;" + body
	}
	return fmt.Sprintf("in v %d %d;%s", low, high, body)
}

// spoil makes of a line one that is likely to be no command.
func (w *writer) spoil(line string) string {
	words := strings.Fields(line)
	at := w.r.IntN(len(words))
	switch w.r.IntN(6) {
	case 0:
		words[at] = []string{"X", "-0", "01", "abcdefghi", "1125899906842625", "a1", "+4", "~"}[w.r.IntN(8)]
	case 1:
		words = append(words[:at], words[at+1:]...)
	case 2:
		words = append(words, []string{"x", "7"}[w.r.IntN(2)])
	case 3:
		return line + strings.Repeat(" ", 300)
	case 4:
		return line + []string{"\t", "\x7f", "\x00", "\xc3\xa9", "\r"}[w.r.IntN(5)]
	case 5:
		return strings.Repeat(" ", w.r.IntN(400))
	}
	return strings.Join(words, " ")
}

// loosen puts blanks around words.
func (w *writer) loosen(line string) string {
	return strings.Repeat(" ", w.r.IntN(3)) + strings.ReplaceAll(line, " ", strings.Repeat(" ", 1+w.r.IntN(3))) + strings.Repeat(" ", w.r.IntN(3))
}
