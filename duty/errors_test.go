package duty_test

import (
	"fmt"
	"math"
	"math/rand/v2"
	"slices"
	"strings"
	"testing"
	"time"

	"cocket/api"
	"cocket/duty"
)

// outcome is an error, and whether every other result was its zero value.
type outcome struct {
	e    api.Errno
	zero bool
}

// calls makes a call of each function that takes a program.
func calls(p api.Program, inputs []int) map[string]outcome {
	all := map[string]outcome{}
	text, e := duty.Print(p)
	all["Print"] = outcome{e, text == ""}
	list, e := duty.Run(p, inputs)
	all["Run"] = outcome{e, len(list) == 0}
	report, e := duty.Analyse(p)
	all["Analyse"] = outcome{e, isSame(report, api.Report{})}
	n, e := duty.Branches(p)
	all["Branches"] = outcome{e, n == 0}
	taken, e := duty.Trace(p, inputs)
	all["Trace"] = outcome{e, len(taken) == 0}
	return all
}

// notValid is programs that Parse never returns, by what is wrong with them.
func notValid() map[string]api.Program {
	all := map[string]api.Program{}
	one, x := number(1), variable("x")
	steps := func(name string, list ...api.Step) {
		all[fmt.Sprintf("step %d: %s", len(all), name)] = api.Program{Steps: list}
	}
	for _, kind := range []int{-1, 4, 9, math.MinInt, math.MaxInt} {
		steps("a kind that is none", api.Step{Kind: kind})
	}
	// What a step of its kind does not have.
	valid := []api.Step{set("x", one), {Kind: api.StepIf, A: one, B: one}, {Kind: api.StepRepeat, N: 1}, out("x")}
	for kind, s := range valid {
		change := func(isWrong bool, f func(s *api.Step)) {
			if isWrong {
				c := s
				f(&c)
				steps(fmt.Sprintf("%+v", c), set("x", one), c)
			}
		}
		change(kind != api.StepRepeat, func(s *api.Step) { s.N = 1 })
		change(kind == api.StepIf || kind == api.StepRepeat, func(s *api.Step) { s.Name = "x" })
		change(kind == api.StepRepeat || kind == api.StepOut, func(s *api.Step) { s.A = one })
		change(kind != api.StepIf, func(s *api.Step) { s.B = one })
		change(kind != api.StepIf, func(s *api.Step) { s.B.Kind = api.ValueSum })
		change(kind != api.StepIf, func(s *api.Step) { s.Equal = true })
		change(kind == api.StepSet || kind == api.StepOut, func(s *api.Step) { s.Then = []api.Step{out("x")} })
		change(kind != api.StepIf, func(s *api.Step) { s.Else = []api.Step{out("x")} })
	}
	for _, n := range []int{-1, 51, math.MinInt, math.MaxInt} {
		steps("turns", repeat(n))
	}
	values(all)
	for _, name := range []string{"", "abcdefghi", "in", "set", "if", "else", "end", "repeat", "out", "min", "max", "X", "x1", "1", "-1", "a b", " x", "x ", "x\n", "é", "x = 1\nset y", "x\nout x", "min(x, x)", "(x)", "x + x", "\xff", strings.Repeat("a", 1<<20)} {
		steps("the name "+name[:min(len(name), 20)], set("x", one), set(name, one))
		steps("the name "+name[:min(len(name), 20)], set("x", one), set("y", variable(name)))
		steps("the name "+name[:min(len(name), 20)], set("x", one), out(name))
		all["input "+name[:min(len(name), 20)]] = api.Program{Inputs: []api.Input{{Name: name, Lo: 0, Hi: 1}}}
	}
	for _, name := range []string{"x = 1\nset y = 2\nset z", "x 0 1\nin y"} {
		all["two lines in one, "+name] = api.Program{Inputs: []api.Input{{Name: name, Lo: 0, Hi: 1}}, Steps: []api.Step{set(name, one)}}
	}
	steps("a name that is not known", set("y", x))
	steps("a name that is not known", out("x"))
	steps("a name that is not known", out("x"), set("x", one))
	steps("a name that is not known", api.Step{Kind: api.StepIf, A: x, B: one})
	steps("a name that is not known", api.Step{Kind: api.StepIf, A: one, B: operation(api.ValueMin, one, x)})
	steps("a name that is not known", api.Step{Kind: api.StepIf, A: one, B: one, Then: []api.Step{out("x")}, Else: []api.Step{set("x", one)}})
	steps("too many steps", slices.Repeat([]api.Step{set("x", one)}, 41)...)
	steps("too many steps", slices.Repeat([]api.Step{set("x", one)}, 100000)...)
	steps("too many out lines", append([]api.Step{set("x", one)}, slices.Repeat([]api.Step{out("x")}, 7)...)...)
	deep := repeat(1)
	for range 10 {
		deep = repeat(1, deep)
	}
	steps("too deep", deep)
	programs(all)
	return all
}

// values adds programs of which a value is wrong.
func values(all map[string]api.Program) {
	one := number(1)
	deep := number(1)
	for range 10 {
		deep = operation(api.ValueMax, number(1), deep)
	}
	for _, v := range []api.Value{
		{Kind: -1}, {Kind: 8}, {Kind: math.MinInt}, {Kind: math.MaxInt, Parts: []api.Value{one, one}},
		number(1000001), number(-1000001), number(math.MaxInt), number(math.MinInt),
		{N: 1, Name: "x"}, {N: 1, Parts: []api.Value{one}}, {N: 1, Parts: []api.Value{one, one}},
		{Kind: api.ValueVariable, Name: "x", N: 1}, {Kind: api.ValueVariable, Name: "x", Parts: []api.Value{one}}, {Kind: api.ValueVariable, N: 1},
		{Kind: api.ValueSum}, {Kind: api.ValueSum, Parts: []api.Value{one}}, {Kind: api.ValueSum, Parts: []api.Value{one, one, one}},
		{Kind: api.ValueMin}, {Kind: api.ValueMax, Parts: []api.Value{one}}, {Kind: api.ValueMin, Parts: []api.Value{one, one, one}},
		{Kind: api.ValueOver, N: 1, Parts: []api.Value{one, one}}, {Kind: api.ValueTimes, Name: "x", Parts: []api.Value{one, one}},
		{Kind: api.ValueLess, Parts: []api.Value{one, {Kind: 8}}}, {Kind: api.ValueLess, Parts: []api.Value{{Kind: api.ValueMax}, one}},
		deep, operation(api.ValueSum, deep, deep), operation(api.ValueSum, deep.Parts[1], operation(api.ValueSum, deep.Parts[1], one)),
	} {
		p := api.Program{Steps: []api.Step{set("x", one), set("y", v)}}
		all[fmt.Sprintf("value %d: %+v", len(all), v)] = p
		p.Steps = []api.Step{set("x", one), {Kind: api.StepIf, A: v, B: one}}
		all[fmt.Sprintf("value %d: %+v", len(all), v)] = p
		p.Steps = []api.Step{set("x", one), {Kind: api.StepIf, A: one, B: v}}
		all[fmt.Sprintf("value %d: %+v", len(all), v)] = p
	}
}

// programs adds programs whose inputs are wrong, or that contain themselves.
func programs(all map[string]api.Program) {
	for _, list := range [][]api.Input{
		{{Name: "a", Lo: 1, Hi: 0}}, {{Name: "a", Lo: 0, Hi: 1000001}}, {{Name: "a", Lo: -1000001, Hi: 0}}, {{Name: "a", Lo: math.MinInt, Hi: math.MaxInt}},
		{{Name: "a"}, {Name: "a"}}, {{Name: "a"}, {Name: "b"}, {Name: "c"}, {Name: "d"}, {Name: "e"}, {Name: "f"}, {Name: "g"}},
		slices.Repeat([]api.Input{{Name: "a"}}, 1000000), {{}},
	} {
		all[fmt.Sprintf("inputs %d", len(all))] = api.Program{Inputs: list}
	}
	for kind := api.ValueSum; kind <= api.ValueMax; kind++ {
		own := []api.Value{{Kind: kind}, {Kind: kind}}
		own[0].Parts, own[1].Parts = own, own
		all[fmt.Sprintf("a value of itself, %d", kind)] = api.Program{Steps: []api.Step{set("x", own[0])}}
	}
	own := []api.Step{{Kind: api.StepRepeat, N: 1}}
	own[0].Then = own
	all["a step of itself"] = api.Program{Steps: own}
	both := []api.Step{{Kind: api.StepIf}, {Kind: api.StepIf}}
	both[0].Then, both[0].Else, both[1].Then, both[1].Else = both, both, both, both
	all["steps of themselves"] = api.Program{Steps: both}
	wide := []api.Value{number(1), number(1)}
	for range 60 {
		wide = []api.Value{{Kind: api.ValueSum, Parts: wide}, {Kind: api.ValueSum, Parts: wide}}
	}
	all["a value as large as nothing else"] = api.Program{Steps: []api.Step{set("x", wide[0])}}
}

// P1: no program makes a function panic or go on for ever, whether it is valid or not.
func TestP1AnyPrograms(t *testing.T) {
	for name, p := range notValid() {
		for _, inputs := range [][]int{nil, {0}, {math.MinInt, math.MaxInt}, make([]int, 100000)} {
			for call, got := range calls(p, inputs) {
				if got.e != api.ErrArg {
					t.Errorf("%s: %s of %d inputs: error %d", name, call, len(inputs), got.e)
				}
			}
		}
	}
}

// P1: no text makes Parse panic or go on for ever.
func TestP1AnyTexts(t *testing.T) {
	r := rand.New(rand.NewPCG(1, 1))
	words := []string{"in", "set", "if", "else", "end", "repeat", "out", "min", "max", "a", "x", "0", "1", "50", "1000000", "-", "-1", "+", "*", "/", "(", ")", ",", "=", "<", "\n", "\n", "\n", " ", "\t", "\x00", "\xff", "é"}
	for range 20000 {
		var text string
		for range r.IntN(30) {
			text += words[r.IntN(len(words))] + strings.Repeat(" ", r.IntN(2))
		}
		p, n, e := duty.Parse(text)
		if (n == 0) != (e == api.OK) || e != api.OK && !isSame(p, api.Program{}) {
			t.Errorf("%q: line %d, error %d", text, n, e)
		}
	}
	for _, piece := range words {
		for _, head := range []string{"", "set x = ", "if ", "set x = 1", "set x = 1\nset x = x", "repeat ", "in ", "set x = ("} {
			duty.Parse(head + strings.Repeat(piece, (api.MaxText-len(head))/len(piece)))
			duty.Parse(head + strings.Repeat(piece+" ", 1400/len(piece)))
			duty.Parse(head + strings.Repeat(piece, 1000000))
		}
	}
}

// P1: what a program may do at most is done soon.
func TestP1MostWork(t *testing.T) {
	text := "in x 1 2\nrepeat 49\nrepeat 50\nrepeat 7\nset x = " + strings.ReplaceAll(full(10), "1", "x") + "\nset x = min(x, 5)\nend\nend\nend\nout x"
	p := parsed(t, strings.ReplaceAll(text, "repeat 7", "repeat 3"))
	start := time.Now()
	if list, e := duty.Run(p, []int{1}); !slices.Equal(list, []int{5}) || e != api.OK {
		t.Error(list, e)
	}
	if r, e := duty.Analyse(p); !isSame(r.Outs, spans(5, 5)) || e != api.OK {
		t.Error(r, e)
	}
	if took := time.Since(start); took > 20*time.Second {
		t.Error(took)
	}
}

// P2: the same arguments have the same results, whatever was called before; and no call changes its arguments.
func TestP2OnlyArguments(t *testing.T) {
	snapshot := func(p api.Program, inputs []int) string {
		list, e := duty.Run(p, inputs)
		taken, _ := duty.Trace(p, inputs)
		report, e2 := duty.Analyse(p)
		n, _ := duty.Branches(p)
		text, _ := duty.Print(p)
		return fmt.Sprint(list, e, taken, report, e2, n, text)
	}
	many(300, func(r *rand.Rand, p api.Program) {
		inputs := randomInputs(r, p)
		kept, keptInputs := fmt.Sprintf("%+v", p), slices.Clone(inputs)
		first := snapshot(p, inputs)
		snapshot(parsed(t, "in a 0 9\nset x = 5\nif a < x\nout a\nend\nset y = 9 / x"), []int{7})
		if again := snapshot(p, inputs); first != again {
			t.Errorf("%s; and then %s", first, again)
		}
		if fmt.Sprintf("%+v", p) != kept || !slices.Equal(inputs, keptInputs) {
			t.Errorf("%+v, %v; before %s, %v", p, inputs, kept, keptInputs)
		}
	})
}

// What a caller does with a result changes no other result.
func TestP2ResultsAreNew(t *testing.T) {
	text := "in a 0 9\nif a < 5\nset x = a + 1\nelse\nset x = a + 1\nend\nrepeat 2\nout x\nend\n"
	p := parsed(t, text)
	run, _ := duty.Run(p, []int{3})
	trace, _ := duty.Trace(p, []int{3})
	report, _ := duty.Analyse(p)
	want := fmt.Sprint(run, trace, report)
	run[0], trace[0], report.Outs[0].Lo, report.Taken[1] = 99, false, 99, false
	_ = append(run[:1], 99)
	run, _ = duty.Run(p, []int{3})
	trace, _ = duty.Trace(p, []int{3})
	report, _ = duty.Analyse(p)
	if got := fmt.Sprint(run, trace, report); got != want {
		t.Errorf("%s; want %s", got, want)
	}
	q := parsed(t, text)
	q.Inputs[0].Name = "b"
	q.Steps[0].Then[0].A.Parts[0].Name = "b"
	_ = append(q.Steps[0].Then, out("x"), out("x"))
	_ = append(q.Steps[0].Then[0].A.Parts, number(9), number(9))
	if q.Steps[0].Else[0].A.Parts[0].Name != "a" || len(q.Steps) != 2 || q.Steps[1].Kind != api.StepRepeat {
		t.Errorf("%+v", q)
	}
	if again := parsed(t, text); !isSame(p, again) {
		t.Errorf("%+v; want %+v", again, p)
	}
	p.Steps[0].Then = nil
	if n, e := duty.Branches(parsed(t, text)); n != 2 || e != api.OK {
		t.Error(n, e)
	}
}
