package duty_test

import (
	"math/rand/v2"
	"strings"
	"testing"

	"cocket/api"
	"cocket/duty"
)

func TestP3_1Parse(t *testing.T) {
	a, b, c := variable("a"), variable("b"), number(2)
	ins := []api.Input{{Name: "a", Lo: 0, Hi: 9}, {Name: "b", Lo: -1000000, Hi: 1000000}}
	head := "in a 0 9\nin b -1000000 1000000\n"
	cases := []struct {
		text  string
		steps []api.Step
	}{
		{"", nil},
		{"out a", []api.Step{out("a")}},
		{"set x = 2\nout x\n", []api.Step{set("x", c), out("x")}},
		{"set a = a\nset abcdefgh = a", []api.Step{set("a", a), set("abcdefgh", a)}},
		{"set x = a + b - 2", []api.Step{set("x", operation(api.ValueLess, operation(api.ValueSum, a, b), c))}},
		{"set x = a - b - 2", []api.Step{set("x", operation(api.ValueLess, operation(api.ValueLess, a, b), c))}},
		{"set x = a - (b + 2)", []api.Step{set("x", operation(api.ValueLess, a, operation(api.ValueSum, b, c)))}},
		{"set x = a * b / 2", []api.Step{set("x", operation(api.ValueOver, operation(api.ValueTimes, a, b), c))}},
		{"set x = a / (b * 2)", []api.Step{set("x", operation(api.ValueOver, a, operation(api.ValueTimes, b, c)))}},
		{"set x = a + b * 2", []api.Step{set("x", operation(api.ValueSum, a, operation(api.ValueTimes, b, c)))}},
		{"set x = (a + b) * 2", []api.Step{set("x", operation(api.ValueTimes, operation(api.ValueSum, a, b), c))}},
		{"set x = a / 2 - b / 2", []api.Step{set("x", operation(api.ValueLess, operation(api.ValueOver, a, c), operation(api.ValueOver, b, c)))}},
		{"set x = min(a, b + 2)", []api.Step{set("x", operation(api.ValueMin, a, operation(api.ValueSum, b, c)))}},
		{"set x = max(min(a, b), 2) / 2", []api.Step{set("x", operation(api.ValueOver, operation(api.ValueMax, operation(api.ValueMin, a, b), c), c))}},
		{"set x = ((((((((((((a))))))))))))", []api.Step{set("x", a)}},
		{"if a < b\nend", []api.Step{{Kind: api.StepIf, A: a, B: b}}},
		{"if a = b\nelse\nend", []api.Step{{Kind: api.StepIf, A: a, B: b, Equal: true}}},
		{"if a * 2 < 2\nout a\nout b\nelse\nout b\nend\nout a", []api.Step{
			{Kind: api.StepIf, A: operation(api.ValueTimes, a, c), B: c, Then: []api.Step{out("a"), out("b")}, Else: []api.Step{out("b")}},
			out("a"),
		}},
		{"if a < b\nif b < a\nout a\nend\nelse\nrepeat 3\nout b\nend\nend", []api.Step{
			{Kind: api.StepIf, A: a, B: b, Then: []api.Step{{Kind: api.StepIf, A: b, B: a, Then: []api.Step{out("a")}}}, Else: []api.Step{repeat(3, out("b"))}},
		}},
		{"repeat 0\nend\nrepeat 50\nout a\nend", []api.Step{repeat(0), repeat(50, out("a"))}},
	}
	for _, c := range cases {
		p, n, e := duty.Parse(head + c.text)
		if want := (api.Program{Inputs: ins, Steps: c.steps}); n != 0 || e != api.OK || !isSame(p, want) {
			t.Errorf("%q: %+v, line %d, error %d; want %+v", c.text, p, n, e, want)
		}
	}
}

func TestP3_1Blanks(t *testing.T) {
	want := parsed(t, "in a -5 9\nset x = a - 5 * (a + 2)\nif x < 10\nrepeat 3\nout x\nend\nend\n")
	for _, text := range []string{
		"in a -5 9\nset x = a - 5 * (a + 2)\nif x < 10\nrepeat 3\nout x\nend\nend",
		"\n   \nin a-5 9\n\nset x=a-5*(a+2)\nif x<10\nrepeat3\nout x\nend\nend\n\n\n  ",
		"   in   a   -5   9   \n  set  x  =  a  -  5  *  (  a  +  2  )  \n if x < 10 \n repeat 3 \n out x \n end \n end ",
		"in a-5 9\nset x = a -5*( a+2)\nif x< 10\nrepeat  3\nout  x\nend\nend",
	} {
		if p, n, e := duty.Parse(text); n != 0 || e != api.OK || !isSame(p, want) {
			t.Errorf("%q: %+v, line %d, error %d", text, p, n, e)
		}
	}
}

func TestP3_1Minus(t *testing.T) {
	cases := []struct {
		sum  string
		want string // as Print writes it; "" if it has no form
	}{
		{"-5", "-5"},
		{"a-5", "a - 5"},
		{"a -5", "a - 5"},
		{"a - 5", "a - 5"},
		{"a--5", "a - -5"},
		{"a -5 - -5", "a - 5 - -5"},
		{"7-5", "7 - 5"},
		{"7 -5", "7 - 5"},
		{"-7 -5", "-7 - 5"},
		{"(a)-5", "a - 5"},
		{"(-5)", "-5"},
		{"min(-5,-6)", "min(-5, -6)"},
		{"a*-5", "a * -5"},
		{"a/-5-5", "a / -5 - 5"},
		{"a+-5", "a + -5"},
		{"a-0", "a - 0"},
		{"a-01", ""},
		{"a--0", ""},
		{"a---5", ""},
		{"- 5", ""},
		{"-a", ""},
		{"-(5)", ""},
		{"-", ""},
		{"a-", ""},
		{"a - - 5", ""},
		{"-0", ""},
		{"--5", ""},
	}
	for _, c := range cases {
		p, n, e := duty.Parse("in a 0 9\nset x = " + c.sum)
		if c.want == "" {
			if n != 2 || e != api.ErrForm {
				t.Errorf("%q: line %d, error %d; want ErrForm", c.sum, n, e)
			}
			continue
		}
		text, _ := duty.Print(p)
		if want := "in a 0 9\nset x = " + c.want + "\n"; e != api.OK || text != want {
			t.Errorf("%q: %q, error %d; want %q", c.sum, text, e, want)
		}
	}
	if p := parsed(t, "if -5 < -6\nend"); p.Steps[0].A.N != -5 || p.Steps[0].B.N != -6 {
		t.Error(p)
	}
	if p := parsed(t, "in a-7-5"); p.Inputs[0] != (api.Input{Name: "a", Lo: -7, Hi: -5}) {
		t.Error(p)
	}
	if _, n, e := duty.Parse("in a 7-5"); n != 1 || e != api.ErrArg {
		t.Error(n, e)
	}
}

func TestP3_1NoForm(t *testing.T) {
	for _, line := range []string{
		"in", "in c", "in c 0", "in c 0 1 2", "in c 0, 1", "in 0 1", "in 5 0 1", "in c d 1", "in c 0 d", "in min 0 1", "in c 00 1", "in c -0 1", "in c 0 1000001", "in c -1000001 0", "in c - 1 0", "in c +1 2", "in c (0) 1", "in c 0 1 -", "inc 0 1", "c in 0 1", "in c 0 99999999999999999999",
		"set", "set x", "set x =", "set x 1", "set x = 1 2", "set x = a b", "set x = a 1", "set x = a1", "set x == 1", "set x = 1 = 1", "set 1 = 1", "set x = 01", "set x = 1000001", "set x = -1000001", "set x = 0x1", "set x = 1.5", "set x = 1_0", "set x = 1e3",
		"set x = 99999999999999999999", "set x = -99999999999999999999", "set x = 18446744073709551617", "setx = 1", "set abcdefghi = 1", "set X = 1", "set x = A", "set x1 = 1", "set x = 1 +", "set x = + 1", "set x = * 1", "set x = 1 * / 1", "set x = ()", "set x = (1", "set x = 1)", "set x = (1))", "set x = )1(", "set x = (1, 2)",
		"set x = min", "set x = min 1", "set x = min(1)", "set x = min(1, 2, 3)", "set x = min(1 2)", "set x = min(, 2)", "set x = min(1,)", "set x = min(1, 2", "set x = min 1, 2", "set x = min 1, 2)", "set x = max 1, 2)", "set x = max()", "set x = min + 1", "set x = mini(1, 2)", "set x = a(1)", "set x = 1 < 2", "set x = 1, 2", "set x = a ++ 1", "set x = 5 % 2", "set x = 1;", "set x = \"1\"", "set x = é", "set é = 1", "set x := 1",
		"if", "if 1", "if 1 <", "if < 1", "if 1 < 2 < 3", "if 1 > 2", "if 1 <= 2", "if 1 == 2", "if 1 = 2 = 3", "if (1 < 2)", "if 1 2", "if 1, 2", "if 1 + 2", "if 1 / 2 3", "if1 < ", "if a < b <", "ifa < 1", "if = 1",
		"repeat", "repeat 51", "repeat -1", "repeat 1000000", "repeat a", "repeat 1 + 1", "repeat (3)", "repeat 3 3", "repeat 03", "repeat 5 -", "repeata",
		"out", "out 1", "out a a", "out a + 1", "out (a)", "out out", "out a,", "outa", "out set",
		"else else", "else a", "end end", "end 1", "elseif", "ends", "end;", "else = 1",
		"a", "1", "-", "=", "(", "min", "x = 1", "SET x = 1", "Out a", "# a", "out\ta", "\tout a", "out a\r", "\r", "\t", "\x00", "out a\x00", "out\u00a0a", "\xff", "out a\v",
	} {
		// Where an else or an end may stand.
		text := "in a 0 9\nin b 0 9\nif a < b\n" + line + "\nend"
		if strings.HasPrefix(line, "in ") {
			text = "in a 0 9\nin b 0 9\n\n" + line
		}
		if p, n, e := duty.Parse(text); n != 4 || e != api.ErrForm || !isSame(p, api.Program{}) {
			t.Errorf("%q: line %d, error %d; want line 4, ErrForm", line, n, e)
		}
	}
	for _, name := range []string{"in", "set", "if", "else", "end", "repeat", "out", "min", "max", "abcdefghi"} {
		for _, text := range []string{"in " + name + " 0 9", "set " + name + " = 1", "set x = " + name, "if " + name + " < 1", "if 1 = " + name, "out " + name} {
			if _, n, e := duty.Parse(text); n != 1 || e != api.ErrForm {
				t.Errorf("%q: line %d, error %d; want ErrForm", text, n, e)
			}
		}
	}
}

func TestP3_1Places(t *testing.T) {
	cases := []struct {
		text string
		line int
	}{
		{"set x = 1\nin a 0 1", 2},
		{"if 1 < 2\nin a 0 1\nend", 2},
		{"if 1 < 2\nend\nin a 0 1", 3},
		{"repeat 1\nend\nin a 0 1", 3},
		{"in a 0 1\nout a\nin b 0 1", 3},
		{"in a 0 1\nout a\nin b 1 0", 3},
		{"in a 0 1\nout a\nin a 0 1", 3},
		{"else", 1},
		{"end", 1},
		{"in a 0 1\nelse", 2},
		{"in a 0 1\nend", 2},
		{"set x = 1\nelse", 2},
		{"repeat 1\nelse\nend", 2},
		{"if 1 < 2\nrepeat 1\nelse\nend\nend", 3},
		{"if 1 < 2\nelse\nelse\nend", 3},
		{"if 1 < 2\nend\nend", 3},
		{"if 1 < 2\nend\nelse", 3},
		{"if 1 < 2\nelse\nif 1 < 2\nelse\nend\nelse\nend", 6},
		{"repeat 2\nend\nend", 3},
		{"if 1 < 2", 1},
		{"if 1 < 2\n", 2},
		{"if 1 < 2\n\n\n", 4},
		{"repeat 2", 1},
		{"if 1 < 2\nelse", 2},
		{"if 1 < 2\nrepeat 2\nend\n", 4},
	}
	for _, c := range cases {
		if p, n, e := duty.Parse(c.text); n != c.line || e != api.ErrForm || !isSame(p, api.Program{}) {
			t.Errorf("%q: line %d, error %d; want line %d, ErrForm", c.text, n, e, c.line)
		}
	}
	parsed(t, "\n  \nin a 0 1\n\nin b 0 1\n \nout a")
}

func TestP3_1DepthOfValues(t *testing.T) {
	chain := func(parts int) string { return "1" + strings.Repeat(" + 1", parts-1) }
	right := func(parts int) string { return strings.Repeat("1-(", parts-1) + "1" + strings.Repeat(")", parts-1) }
	least := func(parts int) string { return strings.Repeat("min(1,", parts-1) + "1" + strings.Repeat(")", parts-1) }
	places := []string{"set x = SUM\nend", "if 1 < SUM\nend\nend", "if SUM = 1\nend\nend"}
	for _, sum := range []string{
		chain(10), right(10), least(10), full(10), "1 - (" + chain(9) + ")", "min(1, " + chain(9) + ")", chain(9) + " - " + least(9),
		strings.Repeat("(", 500) + chain(10) + strings.Repeat(")", 500),
	} {
		for _, place := range places {
			parsed(t, "repeat 1\n"+strings.Replace(place, "SUM", sum, 1))
		}
	}
	for _, sum := range []string{chain(11), right(11), least(11), "1 - (" + chain(10) + ")", "min(1, " + chain(10) + ")", "(" + chain(10) + ") * 1", chain(700), right(700)} {
		for _, place := range places {
			text := "repeat 1\n" + strings.Replace(place, "SUM", sum, 1)
			if _, n, e := duty.Parse(text); n != 2 || e != api.ErrForm {
				t.Errorf("%q: line %d, error %d; want ErrForm", text, n, e)
			}
			unknown := strings.Replace(text, "1", "x", 2)
			if _, n, e := duty.Parse("set y = 1\n" + strings.Replace(unknown, "repeat x", "repeat 1", 1)); n != 3 || e != api.ErrForm {
				t.Errorf("%q: line %d, error %d; want ErrForm before ErrNone", unknown, n, e)
			}
		}
	}
}

func TestP3_1DepthOfSteps(t *testing.T) {
	for _, open := range []string{"repeat 1", "if 1 < 2", "if 1 < 2\nelse"} {
		height := 1 + strings.Count(open, "\n")
		parsed(t, repeated(open, 10)+repeated("end", 10))
		parsed(t, repeated(open, 9)+"set x = 1\nout x\n"+repeated("end", 9))
		for _, within := range []string{open, "set x = 1", "out x", "out y", "set x = y"} {
			_, n, e := duty.Parse("set x = 1\n" + repeated(open, 10) + within + "\n" + repeated("end", 11))
			if n != 2+10*height || e != api.ErrForm {
				t.Errorf("%q within 10 of %q: line %d, error %d; want ErrForm", within, open, n, e)
			}
		}
	}
}

func TestP3_1OtherErrors(t *testing.T) {
	cases := []struct {
		text string
		line int
		want api.Errno
	}{
		{"in a 0 9\nin a 0 9", 2, api.ErrExists},
		{"in a 0 9\nin b 0 9\n\nin a 9 0", 4, api.ErrExists},
		{"in a 9 0", 1, api.ErrArg},
		{"in a -1 -2", 1, api.ErrArg},
		{"in a 1000000 -1000000", 1, api.ErrArg},
		{"out x", 1, api.ErrNone},
		{"set x = x", 1, api.ErrNone},
		{"set x = 1 + min(2, y * 3)", 1, api.ErrNone},
		{"in a 0 1\nif a < x\nend", 2, api.ErrNone},
		{"in a 0 1\nif x = a\nend", 2, api.ErrNone},
		{"in a 0 1\nif a < 1\nset x = 1\nend\nout y", 5, api.ErrNone},
		{"out x\nset x = 1", 1, api.ErrNone},
		{"repeat 2\nout x\nset x = 1\nend", 2, api.ErrNone},
		{"out x\nset in = 1", 1, api.ErrNone},
		{"in a 9 0\nin a 0 9 9", 1, api.ErrArg},
		{"set in = 1\nout x", 1, api.ErrForm},
		{"\n\nset x = y\n", 3, api.ErrNone},
		{"if 1 < 2\nout x\n", 2, api.ErrNone}, // an end that is missing comes after the errors of all lines
		{"in a 0 1\nrepeat 2\nin b 0 1", 3, api.ErrForm},
	}
	for _, c := range cases {
		if p, n, e := duty.Parse(c.text); n != c.line || e != c.want || !isSame(p, api.Program{}) {
			t.Errorf("%q: %+v, line %d, error %d; want line %d, error %d", c.text, p, n, e, c.line, c.want)
		}
	}
	for _, text := range []string{
		"in a 5 5", "in a -2 -1",
		"if 1 < 2\nset x = 1\nelse\nout x\nend\nout x", // in an earlier line, within whatever branch
		"repeat 0\nset x = 1\nend\nset y = x\nout y",
		"set x = 1\nset x = x + x",
		"in a 0 1\nset a = 2\nset a = 3",
	} {
		parsed(t, text)
	}
}

func TestP3_1Limits(t *testing.T) {
	inputs := func(n int) string {
		var text string
		for i := range n {
			text += "in " + string(rune('a'+i)) + " 0 9\n"
		}
		return text
	}
	cases := []struct {
		text string
		line int
		want api.Errno
	}{
		{inputs(6), 0, api.OK},
		{inputs(7), 7, api.ErrLimit},
		{inputs(6) + "in a 9 0", 7, api.ErrExists},
		{inputs(6) + "in g 9 0", 7, api.ErrArg},
		{inputs(6) + "in g 0", 7, api.ErrForm},
		{inputs(1) + repeated("out a", 6), 0, api.OK},
		{inputs(1) + repeated("out a", 7), 8, api.ErrLimit},
		{inputs(1) + repeated("out a", 6) + "out b", 8, api.ErrNone},
		{inputs(1) + repeated("out a", 6) + "out a a", 8, api.ErrForm},
		{inputs(1) + "if 1 < 2\n" + repeated("out a", 3) + "else\n" + repeated("out a", 4), 10, api.ErrLimit},
		{repeated("set x = 1", 40), 0, api.OK},
		{repeated("set x = 1", 41), 41, api.ErrLimit},
		{repeated("set x = 1", 40) + repeated("out x", 6), 0, api.OK},
		{repeated("set x = 1", 40) + "repeat 2", 41, api.ErrLimit},
		{repeated("set x = 1", 40) + "repeat 51", 41, api.ErrForm},
		{repeated("set x = 1", 40) + "if x < 1", 41, api.ErrLimit},
		{repeated("set x = 1", 40) + "if x < y", 41, api.ErrNone},
		{repeated("set x = 1", 40) + "set x = y", 41, api.ErrNone},
		{repeated("if 1 < 2\nelse\nend", 40), 0, api.OK},
		{repeated("if 1 < 2\nelse\nend", 41), 121, api.ErrLimit},
		{repeated("repeat 2\nend", 40), 0, api.OK},
		{repeated("repeat 2\nset x = 1\nend", 20) + "set y = x", 61, api.ErrLimit},
		{repeated("", 3000), 0, api.OK},
		{repeated("", 3001), 0, api.ErrLimit},
		{strings.Repeat(" ", 3000), 0, api.OK},
		{strings.Repeat(" ", 3001), 0, api.ErrLimit},
		{"set in = 1" + strings.Repeat(" ", 2991), 0, api.ErrLimit},
		{"set in = 1" + strings.Repeat(" ", 2990), 1, api.ErrForm},
	}
	for _, c := range cases {
		p, n, e := duty.Parse(c.text)
		if n != c.line || e != c.want {
			t.Errorf("%q: line %d, error %d; want line %d, error %d", c.text, n, e, c.line, c.want)
		}
		if e != api.OK && !isSame(p, api.Program{}) {
			t.Errorf("%q: a program with error %d", c.text, e)
		}
	}
}

func TestP3_1ParseOfRandom(t *testing.T) {
	many(1500, func(r *rand.Rand, p api.Program) {
		text := scribble(r, p)
		if q, n, e := duty.Parse(text); n != 0 || len(text) <= api.MaxText && (e != api.OK || !isSame(p, q)) {
			t.Errorf("%q: %+v, line %d, error %d; want %+v", text, q, n, e, p)
		}
	})
}
