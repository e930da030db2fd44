package house_test

import (
	"fmt"
	"math/big"
	"regexp"
	"slices"
	"strconv"
	"strings"
	"testing"

	"cocket/api"
	"cocket/duty"
	"cocket/house"
	"cocket/inspect"
	"cocket/quota"
	"cocket/rate"
	"cocket/route"
)

// slowHouse keeps nothing but its book: whatever it is asked, it finds by going through all of it.
type slowHouse struct {
	book [][]string
}

var (
	slowLine   = regexp.MustCompile(`^[ -~]{1,300}$`)
	slowNumber = regexp.MustCompile(`^(0|-?[1-9][0-9]*)$`)
	slowName   = regexp.MustCompile(`^[a-z]{1,8}$`)
)

// slowTable is the table of the chapter: a mark of interrogation is at what may be missing.
var slowTable = map[string]string{
	"money": "NAME", "offer": "NAME NAME N N", "band": "N N N N N", "formula": "NAME WORDS", "charge": "N NAME N N", "enter": "NAME N NAME N N",
	"join": "NAME NAME NAME NAME? NAME?", "clear": "NAME N", "leg": "N N N N N", "rate": "NAME NAME", "round": "", "code": "N N", "gap": "", "dead": "",
	"known": "N N N", "charges": "N N", "due": "NAME N", "sources": "NAME", "divide": "N N N N? N? N? N? N? N?", "looks": "N N", "arrive": "N N N", "audit": "", "if": "WORDS",
}

var slowChanges = []string{"money", "offer", "band", "formula", "charge", "enter", "join", "clear", "leg"}

func (s *slowHouse) exec(line string) string {
	reply, changes := s.reply(line)
	if changes {
		s.book = append(s.book, strings.Fields(line))
	}
	return reply
}

// reply returns the reply of a line, and whether it is to be written into the book.
func (s *slowHouse) reply(line string) (string, bool) {
	if strings.ReplaceAll(line, " ", "") == "" {
		return "", false
	}
	words := strings.Fields(line)
	kinds, known := slowTable[words[0]]
	if !slowLine.MatchString(line) || !known {
		return "? line", false
	}
	if fault := slowFault(strings.Fields(kinds), words[1:]); fault != "" {
		return fault, false
	}
	if words[0] == "if" {
		reply, _ := s.reply(strings.Join(words[1:], " "))
		return reply, false
	}
	reply, e := s.do(words[0], words[1:])
	if e != api.OK {
		return "! " + strconv.Itoa(int(e)), false
	}
	return reply, slices.Contains(slowChanges, words[0])
}

func slowFault(kinds, words []string) string {
	if len(kinds) > 0 && kinds[len(kinds)-1] == "WORDS" && len(words) >= len(kinds) {
		words = words[:len(kinds)]
	}
	if len(words) > len(kinds) || len(words) < len(kinds) && !strings.HasSuffix(kinds[len(words)], "?") {
		return "? line"
	}
	for i, word := range words {
		n, _ := new(big.Int).SetString(word, 10)
		isNumber := slowNumber.MatchString(word) && n.CmpAbs(big.NewInt(1<<50)) <= 0
		kind := strings.TrimSuffix(kinds[i], "?")
		if kind == "N" && !isNumber || kind == "NAME" && !slowName.MatchString(word) {
			return fmt.Sprint("? word ", i+1)
		}
	}
	return ""
}

// of returns the parameters of all commands of that name in the book.
func (s *slowHouse) of(name string) [][]string {
	var list [][]string
	for _, words := range s.book {
		if words[0] == name {
			list = append(list, words[1:])
		}
	}
	return list
}

// index returns how many commands of that name stand before the one with this first parameter, or -1.
func (s *slowHouse) index(name, first string) int {
	return slices.IndexFunc(s.of(name), func(p []string) bool { return p[0] == first })
}

func slowInt(word string) int {
	n, err := strconv.Atoi(word)
	if err != nil {
		panic(word)
	}
	return n
}

func slowInts(words []string) []int {
	var list []int
	for _, word := range words {
		list = append(list, slowInt(word))
	}
	return list
}

// first returns the error of the first case that is so.
func first(cases ...any) api.Errno {
	for i := 0; i < len(cases); i += 2 {
		if cases[i].(bool) {
			return cases[i+1].(api.Errno)
		}
	}
	return api.OK
}

func (s *slowHouse) do(name string, p []string) (string, api.Errno) {
	switch name {
	case "money":
		return "ok", first(s.index("money", p[0]) >= 0, api.ErrExists, len(s.of("money")) == 6, api.ErrFull)
	case "offer":
		return "ok", s.offer(p)
	case "band":
		return fmt.Sprint("rule ", len(s.of("band"))+1), first(!slowIsRule(slowInts(p)), api.ErrArg, len(s.of("band")) == 24, api.ErrFull)
	case "formula":
		return s.formula(p)
	case "charge":
		from, to := slowInt(p[2]), slowInt(p[3])
		wrong := slowInt(p[0]) < 0 || slowInt(p[0]) > 99 || from < 0 || from >= to || to > 10000
		return "ok", first(s.index("formula", p[1]) < 0, api.ErrNone, wrong, api.ErrArg, len(s.of("charge")) == 60, api.ErrFull)
	case "enter":
		value, marks := slowInt(p[1]), slowInts(p[3:])
		wrong := value < 1 || value > 1000000 || slices.Min(marks) < 0 || slices.Max(marks) > 999
		return "ok", first(s.has(p[0]), api.ErrExists, s.index("money", p[2]) < 0, api.ErrNone, wrong, api.ErrArg, s.count() == 60, api.ErrFull)
	case "join":
		return "ok", s.join(p)
	case "clear":
		good, _ := s.good(p[0])
		if e := first(!s.has(p[0]), api.ErrNone, good.Gone || good.Cleared, api.ErrState); e != api.OK {
			return "", e
		}
		return s.due(p[0], slowInt(p[1]))
	case "leg":
		return "ok", first(!slowIsLeg(slowInts(p)), api.ErrArg, len(s.of("leg")) == 60, api.ErrFull)
	}
	return s.look(name, p)
}

func (s *slowHouse) look(name string, p []string) (string, api.Errno) {
	switch name {
	case "rate":
		best, e := s.best(p[0], p[1])
		return best.String(), e
	case "round":
		return fmt.Sprint("none ", len(s.of("offer"))), api.OK
	case "code":
		if marks := slowInts(p); slices.Min(marks) < 0 || slices.Max(marks) > 999 {
			return "", api.ErrArg
		}
		rule := s.rule(slowInt(p[0]), slowInt(p[1]))
		if rule < 0 {
			return "", api.ErrNone
		}
		return s.of("band")[rule][4], api.OK
	case "gap", "dead":
		return s.corners(name), api.OK
	case "known":
		return s.known(slowInt(p[0]), slowInt(p[1]), slowInt(p[2]))
	case "charges":
		return s.charges(slowInt(p[0]), slowInt(p[1]))
	case "due":
		return s.due(p[0], slowInt(p[1]))
	case "sources":
		names := slices.Sorted(slices.Values(s.sources(p[0])))
		return strings.Join(names, " "), first(!s.has(p[0]), api.ErrNone)
	case "divide":
		shares, e := quota.Share(slowInt(p[0]), slowInt(p[1]), slowInts(p[2:]))
		return fmt.Sprint(strings.Trim(fmt.Sprint(shares.Num), "[]"), " / ", shares.Den), e
	case "looks":
		gain, e := inspect.Dresher(slowInt(p[0]), slowInt(p[1]))
		return fmt.Sprint(gain.Num, "/", gain.Den), e
	case "arrive":
		arrival, _, e := route.Earliest(8, s.legs(), 0, slowInt(p[0]), slowInt(p[1]), slowInt(p[2]))
		return fmt.Sprint(arrival), e
	}
	a := s.audit()
	return fmt.Sprint(map[bool]string{true: "good", false: "bad"}[a.Good], " ", a.Commands, " ", a.Goods, " ", a.Held, " ", a.Cleared, " ", a.Duty), api.OK
}

func (s *slowHouse) offers(more ...[]string) []api.Offer {
	var list []api.Offer
	for _, p := range append(s.of("offer"), more...) {
		list = append(list, api.Offer{From: s.index("money", p[0]), To: s.index("money", p[1]), Num: slowInt(p[2]), Den: slowInt(p[3])})
	}
	return list
}

func (s *slowHouse) offer(p []string) api.Errno {
	none := s.index("money", p[0]) < 0 || s.index("money", p[1]) < 0
	terms := slowInts(p[2:])
	wrong := p[0] == p[1] || slices.Min(terms) < 1 || slices.Max(terms) > 50
	if e := first(none, api.ErrNone, wrong, api.ErrArg, len(s.of("offer")) == 40, api.ErrFull); e != api.OK {
		return e
	}
	// There are prices exactly if there is no round that gains.
	_, e := rate.Prices(len(s.of("money")), s.offers(p))
	return e
}

// best returns the best rate of two monies.
func (s *slowHouse) best(from, to string) (*big.Rat, api.Errno) {
	one := big.NewRat(1, 1)
	if e := first(s.index("money", from) < 0 || s.index("money", to) < 0, api.ErrNone); e != api.OK || from == to {
		return one, e
	}
	best, _, e := rate.Best(len(s.of("money")), s.offers(), s.index("money", from), s.index("money", to))
	if e != api.OK {
		return one, e
	}
	return big.NewRat(int64(best.Num), int64(best.Den)), api.OK
}

func slowIsRule(p []int) bool {
	return 0 <= p[0] && p[0] < p[1] && p[1] <= 1000 && 0 <= p[2] && p[2] < p[3] && p[3] <= 1000 && 0 <= p[4] && p[4] <= 99
}

func slowIsLeg(p []int) bool {
	return 0 <= p[0] && p[0] < 8 && 0 <= p[1] && p[1] < 8 && p[0] != p[1] && 0 <= p[2] && p[2] < p[3] && p[3] <= 10000 && 0 <= p[4] && p[4] <= 20
}

func (s *slowHouse) legs() []api.Leg {
	var list []api.Leg
	for _, p := range s.of("leg") {
		list = append(list, api.Leg{From: slowInt(p[0]), To: slowInt(p[1]), Dep: slowInt(p[2]), Arr: slowInt(p[3]), Line: slowInt(p[4])})
	}
	return list
}

// rule returns the index of the rule that decides, or -1.
func (s *slowHouse) rule(mark, second int) int {
	return slices.IndexFunc(s.of("band"), func(p []string) bool {
		return slowInt(p[0]) <= mark && mark < slowInt(p[1]) && slowInt(p[2]) <= second && second < slowInt(p[3])
	})
}

// corners tries all marks at which something may change, and returns the first that have no rule, or the rules that decide none of them.
func (s *slowHouse) corners(name string) string {
	firsts, seconds := []int{0}, []int{0}
	for _, p := range s.of("band") {
		firsts = append(firsts, slowInts(p[:2])...)
		seconds = append(seconds, slowInts(p[2:4])...)
	}
	slices.Sort(firsts)
	slices.Sort(seconds)
	decides := map[int]bool{}
	gap := ""
	for _, mark := range firsts {
		for _, second := range seconds {
			if mark > 999 || second > 999 {
				continue
			}
			rule := s.rule(mark, second)
			decides[rule] = true
			if rule < 0 && gap == "" {
				gap = fmt.Sprint(mark, " ", second)
			}
		}
	}
	var dead []string
	for i := range s.of("band") {
		if !decides[i] {
			dead = append(dead, fmt.Sprint(i+1))
		}
	}
	reply := map[string]string{"gap": gap, "dead": strings.Join(dead, " ")}[name]
	if reply == "" {
		return "none"
	}
	return reply
}

// program returns the program of a formula of the book.
func slowProgram(p []string) (api.Program, api.Errno) {
	program, _, e := duty.Parse(strings.ReplaceAll(strings.Join(p[1:], " "), ";", "\n"))
	return program, e
}

func (s *slowHouse) formula(p []string) (string, api.Errno) {
	program, e := slowProgram(p)
	if e := first(s.index("formula", p[0]) >= 0, api.ErrExists, e != api.OK, api.ErrForm); e != api.OK {
		return "", e
	}
	text, _ := duty.Print(program)
	ins, outs, inner, depth := 0, 0, 0, 0
	for _, line := range strings.Split(text, "\n") {
		switch strings.Split(line, " ")[0] {
		case "in":
			ins++
		case "if", "repeat":
			depth++
		case "end":
			depth--
		case "out":
			outs++
			inner += depth
		}
	}
	if ins != 1 || outs != 1 || inner > 0 {
		return "", api.ErrArg
	}
	report, e := duty.Analyse(program)
	if e != api.OK {
		return "", e
	}
	wrong := report.Zero || report.Beyond || !report.Ends
	return fmt.Sprint(report.Outs[0].Lo, " ", report.Outs[0].Hi), first(wrong, api.ErrPlan, len(s.of("formula")) == 12, api.ErrFull)
}

// paint returns, for each day, the formula of a code after so many commands.
func (s *slowHouse) paint(code, known int) []string {
	days := make([]string, 10000)
	for _, words := range s.book[:known] {
		if words[0] == "charge" && slowInt(words[1]) == code {
			for day := slowInt(words[3]); day < slowInt(words[4]); day++ {
				days[day] = words[2]
			}
		}
	}
	return days
}

func (s *slowHouse) known(code, day, known int) (string, api.Errno) {
	wrong := code < 0 || code > 99 || day < 0 || day > 9999
	if e := first(wrong, api.ErrArg, known < 0 || known > len(s.book), api.ErrRange); e != api.OK {
		return "", e
	}
	formula := s.paint(code, known)[day]
	return formula, first(formula == "", api.ErrNone)
}

func (s *slowHouse) charges(code, known int) (string, api.Errno) {
	if e := first(code < 0 || code > 99, api.ErrArg, known < 0 || known > len(s.book), api.ErrRange); e != api.OK {
		return "", e
	}
	days := append(s.paint(code, known), "")
	var words []string
	from := 0
	for day, formula := range days {
		if formula == days[from] && day < 10000 {
			continue
		}
		if days[from] != "" {
			words = append(words, fmt.Sprint(from, "-", day, ":", days[from]))
		}
		from = day
	}
	if len(words) == 0 {
		return "none", api.OK
	}
	return strings.Join(words, " "), api.OK
}

// count returns how many goods there are.
func (s *slowHouse) count() int {
	return len(s.of("enter")) + len(s.of("join"))
}

func (s *slowHouse) has(name string) bool {
	return s.index("enter", name) >= 0 || s.index("join", name) >= 0
}

// good returns goods, as all commands together have made them.
func (s *slowHouse) good(name string) (api.Good, api.Errno) {
	good := api.Good{Name: name}
	for i, words := range s.book {
		switch {
		case words[0] == "enter" && words[1] == name:
			good.Value, good.Money, good.Marks = slowInt(words[2]), words[3], slowInts(words[4:])
		case words[0] == "join" && words[1] == name:
			for _, part := range words[2:] {
				whole, _ := s.good(part)
				good.Value += whole.Value
				good.Money, good.Marks = whole.Money, whole.Marks
			}
			good.From = words[2:]
		case words[0] == "join":
			good.Gone = good.Gone || slices.Contains(words[2:], name)
		case words[0] == "clear" && words[1] == name:
			then := &slowHouse{s.book[:i]}
			paid, _ := then.due(name, slowInt(words[2]))
			good.Cleared, good.Duty = true, slowInt(paid)
		}
	}
	if !s.has(name) {
		return api.Good{}, api.ErrNone
	}
	return good, api.OK
}

func (s *slowHouse) join(p []string) api.Errno {
	if e := first(s.has(p[0]), api.ErrExists, len(slices.Compact(slices.Sorted(slices.Values(p[1:])))) < len(p)-1, api.ErrArg); e != api.OK {
		return e
	}
	var parts []api.Good
	for _, name := range p[1:] {
		good, e := s.good(name)
		if e := first(e != api.OK, api.ErrNone, good.Gone || good.Cleared, api.ErrState); e != api.OK {
			return e
		}
		parts = append(parts, good)
	}
	sum, alike := 0, true
	for _, part := range parts {
		sum += part.Value
		alike = alike && fmt.Sprint(part.Money, part.Marks) == fmt.Sprint(parts[0].Money, parts[0].Marks)
	}
	return first(!alike, api.ErrPlan, sum > 1000000, api.ErrArg, s.count() == 60, api.ErrFull)
}

func (s *slowHouse) due(name string, day int) (string, api.Errno) {
	good, e := s.good(name)
	if e := first(e != api.OK, api.ErrNone, day < 0 || day > 9999, api.ErrArg); e != api.OK {
		return "", e
	}
	best, e := s.best(good.Money, s.of("money")[0][0])
	if e != api.OK {
		return "", e
	}
	worth := new(big.Rat).Mul(best, big.NewRat(int64(good.Value), 1))
	rule := s.rule(good.Marks[0], good.Marks[1])
	if rule < 0 {
		return "", api.ErrNone
	}
	formula, e := s.known(slowInt(s.of("band")[rule][4]), day, len(s.book))
	if e != api.OK {
		return "", e
	}
	program, _ := slowProgram(s.of("formula")[s.index("formula", formula)])
	outs, e := duty.Run(program, []int{int(new(big.Int).Div(worth.Num(), worth.Denom()).Int64())})
	if e != api.OK {
		return "", e
	}
	return fmt.Sprint(outs[0]), api.OK
}

func (s *slowHouse) sources(name string) []string {
	if i := s.index("join", name); i >= 0 {
		var names []string
		for _, part := range s.of("join")[i][1:] {
			names = append(names, s.sources(part)...)
		}
		return names
	}
	return []string{name}
}

func (s *slowHouse) goods() []string {
	var names []string
	for _, words := range s.book {
		if words[0] == "enter" || words[0] == "join" {
			names = append(names, words[1])
		}
	}
	return names
}

func (s *slowHouse) audit() api.Audit {
	a := api.Audit{Commands: len(s.book), Goods: s.count(), Good: true}
	there := map[string]int{}
	for _, name := range s.goods() {
		good, _ := s.good(name)
		if len(good.From) == 0 {
			there[good.Money] += good.Value
		}
		if !good.Gone {
			there[good.Money] -= good.Value
		}
		if good.Cleared {
			a.Cleared++
			a.Duty += good.Duty
		} else if !good.Gone {
			a.Held++
		}
	}
	for _, value := range there {
		a.Good = a.Good && value == 0
	}
	return a
}

// kindOfReply returns the command and the reply's beginning, by which replies are counted.
func kindOfReply(line, reply string) string {
	if isBad(reply) {
		return strings.Fields(line)[0] + " " + strings.Join(strings.Fields(reply)[:2], " ")
	}
	return strings.Fields(line)[0] + " ok"
}

func TestP10_2to10_11Slowly(t *testing.T) {
	t.Parallel()
	counts := map[string]int{}
	slow := &slowHouse{}
	houses(t, 400, 500, func(h *house.House, line string) {
		if len(h.Book()) == 0 {
			slow = &slowHouse{}
		}
		want := slow.exec(line)
		if got := h.Copy().Exec(line); got != want {
			t.Fatalf("%q: %q, want %q", line, got, want)
		}
		if want != "" {
			counts[kindOfReply(line, want)]++
		}
	})
	for _, name := range commandNames() {
		if counts[name+" ok"] < 100 {
			t.Errorf("%s is done only %d times", name, counts[name+" ok"])
		}
	}
	for _, refused := range []string{
		"money ! 7", "money ! 8", "offer ! 6", "offer ! 2", "offer ! 8", "offer ! 10", "band ! 2", "band ! 8",
		"formula ! 7", "formula ! 5", "formula ! 2", "formula ! 13", "formula ! 10", "formula ! 8", "charge ! 6", "charge ! 2", "charge ! 8",
		"enter ! 7", "enter ! 6", "enter ! 2", "enter ! 8", "join ! 7", "join ! 2", "join ! 6", "join ! 9", "join ! 10", "join ! 8",
		"clear ! 6", "clear ! 9", "clear ! 2", "clear ! 10", "leg ! 2", "leg ! 8", "rate ! 6", "rate ! 10", "code ! 2", "code ! 6",
		"known ! 2", "known ! 4", "known ! 6", "charges ! 2", "charges ! 4", "due ! 6", "due ! 2", "due ! 10", "sources ! 6",
		"divide ! 2", "looks ! 2", "arrive ! 2", "arrive ! 10", "if ? word", "if ! 9", "offer ? word", "audit ? line",
	} {
		if counts[refused] < 10 {
			t.Errorf("%q only %d times", refused, counts[refused])
		}
	}
}

func TestP10_7to10_11SlowlyByMethods(t *testing.T) {
	t.Parallel()
	slow := &slowHouse{}
	step := 0
	houses(t, 60, 400, func(h *house.House, line string) {
		if len(h.Book()) == 0 {
			slow = &slowHouse{}
		}
		slow.exec(line)
		twin := h.Copy()
		twin.Exec(line)
		if step++; step%20 != 0 {
			return
		}
		if got, want := fmt.Sprint(twin.Book(), twin.Audit()), fmt.Sprint(slow.lines(), slow.audit()); got != want {
			t.Fatalf("%s, want %s", got, want)
		}
		for _, name := range append(slow.goods(), "nothing") {
			good, e := twin.Good(name)
			want, wantError := slow.good(name)
			if fmt.Sprint(good) != fmt.Sprint(want) || e != wantError {
				t.Fatalf("Good(%s): %v, error %d, want %v, %d", name, good, e, want, wantError)
			}
		}
		for code := range 4 {
			known := step % (len(slow.book) + 1)
			charges, e := twin.Charges(code, known)
			want, _ := slow.charges(code, known)
			if got := listed(charges); got != want || e != api.OK {
				t.Fatalf("Charges(%d, %d): %s, error %d, want %s", code, known, got, e, want)
			}
		}
	})
}

// lines returns the book as Book does.
func (s *slowHouse) lines() []string {
	var list []string
	for _, words := range s.book {
		list = append(list, strings.Join(words, " "))
	}
	return list
}

// listed returns charges as the command does.
func listed(charges []api.Charge) string {
	var words []string
	for _, c := range charges {
		words = append(words, fmt.Sprint(c.From, "-", c.To, ":", c.Formula))
	}
	if len(words) == 0 {
		return "none"
	}
	return strings.Join(words, " ")
}
