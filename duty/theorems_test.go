package duty_test

import (
	"math/rand/v2"
	"slices"
	"strings"
	"testing"

	"cocket/api"
	"cocket/duty"
)

func TestP3_7ThereAndBack(t *testing.T) {
	many(1500, func(r *rand.Rand, p api.Program) {
		text, e := duty.Print(p)
		if e != api.OK {
			t.Fatalf("%+v: error %d", p, e)
		}
		q := parsed(t, text)
		if !isSame(p, q) {
			t.Errorf("%q: %+v; want %+v", text, q, p)
		}
		if again := printed(t, q); again != text {
			t.Errorf("%q is printed as %q", text, again)
		}
	})
}

// disturbed is a source of which a line, or a word of one, is left out, repeated or put into another place.
func disturbed(r *rand.Rand, text string) string {
	list := strings.SplitAfter(text, "\n")
	i, j := r.IntN(len(list)), r.IntN(len(list))
	switch r.IntN(5) {
	case 0:
		list = slices.Delete(list, i, i+1)
	case 1:
		list = slices.Insert(list, j, list[i])
	case 2:
		list[i], list[j] = list[j], list[i]
	default:
		words := strings.Split(list[i], " ")
		others := strings.Fields(text + " ( ) - -1 + * x a 0 1 min( , ) < = end else in")
		words[r.IntN(len(words))] = others[r.IntN(len(others))] + "\n"[:r.IntN(2)]
		list[i] = strings.Join(words, " ")
	}
	return strings.Join(list, "")
}

// What is changed in a source at random has an error, or is a valid program.
func TestP3_7ParsedIsValid(t *testing.T) {
	errors := map[api.Errno]int{}
	many(3000, func(r *rand.Rand, p api.Program) {
		text := disturbed(r, printed(t, p))
		q, n, e := duty.Parse(text)
		errors[e]++
		if e != api.OK {
			if n < 1 || n > strings.Count(text, "\n")+1 || !isSame(q, api.Program{}) {
				t.Errorf("%q: line %d, error %d, %+v", text, n, e, q)
			}
			return
		}
		if again := parsed(t, printed(t, q)); n != 0 || !isSame(q, again) {
			t.Errorf("%q: %+v, and there and back %+v", text, q, again)
		}
	})
	if errors[api.OK] < 300 || errors[api.ErrForm] < 300 || errors[api.ErrNone] < 30 {
		t.Error(errors)
	}
}

// expectSound holds what the analysis of a program says against what it does with these inputs.
func expectSound(t *testing.T, p api.Program, report api.Report, inputs []int) {
	t.Helper()
	list, e := duty.Run(p, inputs)
	if e == api.OK && !report.Ends || e == api.ErrZero && !report.Zero || e == api.ErrRange && !report.Beyond || e == api.ErrFuel {
		t.Errorf("%q of %v: error %d; but %+v", printed(t, p), inputs, e, report)
	}
	if e != api.OK {
		return
	}
	taken, e := duty.Trace(p, inputs)
	for i, is := range taken {
		if e != api.OK || is && !report.Taken[i] {
			t.Errorf("%q of %v: takes the branches %v, error %d; but %+v", printed(t, p), inputs, taken, e, report)
		}
	}
	lines := outLines(p, inputs)
	if len(lines) != len(list) {
		t.Fatalf("%q of %v: %v are out of %d lines", printed(t, p), inputs, list, len(lines))
	}
	for i, n := range list {
		if b := report.Outs[lines[i]]; n < b.Lo || n > b.Hi {
			t.Errorf("%q of %v: %v are out; but %+v", printed(t, p), inputs, list, report)
		}
	}
}

// outLines is which of its out lines a program executes: it is run with a number of its own in place of what each puts out.
func outLines(p api.Program, inputs []int) []int {
	index := 0
	var numbered func(list []api.Step) []api.Step
	numbered = func(list []api.Step) []api.Step {
		var copied []api.Step
		for _, s := range list {
			s.Then, s.Else = numbered(s.Then), numbered(s.Else)
			if s.Kind == api.StepOut {
				copied = append(copied, set("line", number(index)))
				s.Name = "line"
				index++
			}
			copied = append(copied, s)
		}
		return copied
	}
	p.Steps = numbered(p.Steps)
	lines, _, _ := slowRun(p, inputs)
	return lines
}

func TestP3_8Sound(t *testing.T) {
	small := 0
	many(2500, func(r *rand.Rand, p api.Program) {
		report, e := duty.Analyse(p)
		if e != api.OK {
			t.Fatalf("%q: error %d", printed(t, p), e)
		}
		if isSmall(p) {
			small++
			for inputs := range allInputs(p) {
				expectSound(t, p, report, inputs)
			}
			return
		}
		for range 30 {
			expectSound(t, p, report, randomInputs(r, p))
		}
	})
	if small < 1000 {
		t.Error(small)
	}
}

// narrower is a program of which some inputs have narrower bounds.
func narrower(r *rand.Rand, p api.Program) api.Program {
	p.Inputs = slices.Clone(p.Inputs)
	for i, in := range p.Inputs {
		p.Inputs[i].Lo = in.Lo + r.IntN(in.Hi-in.Lo+1)/(1+r.IntN(3))
		p.Inputs[i].Hi = p.Inputs[i].Lo + r.IntN(in.Hi-p.Inputs[i].Lo+1)
	}
	return p
}

func TestP3_9Monotone(t *testing.T) {
	many(2500, func(r *rand.Rand, p api.Program) {
		wide, e := duty.Analyse(p)
		for range 5 {
			q := narrower(r, p)
			narrow, e2 := duty.Analyse(q)
			if e != api.OK || e2 != api.OK {
				t.Fatalf("%q: errors %d and %d", printed(t, p), e, e2)
			}
			isMore := narrow.Zero && !wide.Zero || narrow.Beyond && !wide.Beyond
			for i, taken := range narrow.Taken {
				isMore = isMore || taken && !wide.Taken[i]
			}
			for i, b := range narrow.Outs {
				isMore = isMore || b.Lo <= b.Hi && (b.Lo < wide.Outs[i].Lo || b.Hi > wide.Outs[i].Hi)
			}
			if isMore {
				t.Errorf("%q: %+v; but of %v: %+v", printed(t, p), wide, q.Inputs, narrow)
			}
		}
	})
}

func TestP3_10Points(t *testing.T) {
	once := 0
	many(2500, func(r *rand.Rand, p api.Program) {
		inputs := randomInputs(r, p)
		p.Inputs = slices.Clone(p.Inputs)
		for i, n := range inputs {
			p.Inputs[i].Lo, p.Inputs[i].Hi = n, n
		}
		list, e := duty.Run(p, inputs)
		report, e2 := duty.Analyse(p)
		if e2 != api.OK {
			t.Fatalf("%q: error %d", printed(t, p), e2)
		}
		if e != api.OK {
			if report.Ends || report.Zero != (e == api.ErrZero) || report.Beyond != (e == api.ErrRange) {
				t.Errorf("%q of %v: error %d; but %+v", printed(t, p), inputs, e, report)
			}
			return
		}
		taken, _ := duty.Trace(p, inputs)
		if !slices.Equal(taken, report.Taken) || !report.Ends || report.Zero || report.Beyond {
			t.Errorf("%q of %v: takes the branches %v; but %+v", printed(t, p), inputs, taken, report)
		}
		lines := outLines(p, inputs)
		times := map[int]int{}
		for _, line := range lines {
			times[line]++
		}
		for i, n := range list {
			if times[lines[i]] > 1 {
				continue
			}
			once++
			if want := (api.Bounds{Lo: n, Hi: n}); report.Outs[lines[i]] != want {
				t.Errorf("%q of %v: %v are out; but %+v", printed(t, p), inputs, list, report)
			}
		}
	})
	if once < 1000 {
		t.Error(once)
	}
}
