package duty_test

import (
	"fmt"
	"math/rand/v2"
	"strings"
	"testing"

	"cocket/api"
	"cocket/duty"
)

// spans is bounds: Lo, Hi, Lo, Hi ..
func spans(ends ...int) []api.Bounds {
	var list []api.Bounds
	for i := 0; i < len(ends); i += 2 {
		list = append(list, api.Bounds{Lo: ends[i], Hi: ends[i+1]})
	}
	return list
}

// flags is a list of bools, written with + and -.
func flags(text string) []bool {
	var list []bool
	for _, c := range text {
		list = append(list, c == '+')
	}
	return list
}

// expected is a source and what Analyse is to say: of its branches as flags, and z if Zero, b if Beyond, e if Ends.
type expected struct {
	text  string
	outs  []api.Bounds
	taken string
	notes string
}

func expect(t *testing.T, cases []expected) {
	t.Helper()
	for _, c := range cases {
		want := api.Report{Outs: c.outs, Taken: flags(c.taken), Zero: strings.Contains(c.notes, "z"), Beyond: strings.Contains(c.notes, "b"), Ends: strings.Contains(c.notes, "e")}
		if got, e := duty.Analyse(parsed(t, c.text)); !isSame(got, want) || e != api.OK {
			t.Errorf("%q: %+v, error %d; want %+v", c.text, got, e, want)
		}
	}
}

const most = 1 << 40

func TestP3_5Operations(t *testing.T) {
	ab := "in a -2 3\nin b 5 7\n"
	big := "set m = 524288 * 524288 * 4\n"
	expect(t, []expected{
		{"", nil, "", "e"},
		{"set x = -7\nout x", spans(-7, -7), "", "e"},
		{ab + "out a\nset x = b\nout x", spans(-2, 3, 5, 7), "", "e"},
		{ab + "set x = a + b\nout x", spans(3, 10), "", "e"},
		{ab + "set x = a - b\nout x", spans(-9, -2), "", "e"},
		{ab + "set x = a - a\nout x", spans(-5, 5), "", "e"},
		{ab + "set x = a * b\nout x", spans(-14, 21), "", "e"},
		{ab + "set x = a * a\nout x", spans(-6, 9), "", "e"},
		{ab + "set x = min(a, b)\nset y = min(a, 1)\nset z = min(0, a)\nout x\nout y\nout z", spans(-2, 3, -2, 1, -2, 0), "", "e"},
		{ab + "set x = max(a, b)\nset y = max(a, 1)\nset z = max(0, a)\nout x\nout y\nout z", spans(5, 7, 1, 3, 0, 3), "", "e"},
		// A quotient.
		{"in a -7 20\nset x = a / 3\nout x", spans(-3, 6), "", "e"},
		{"in a -7 20\nset x = a / -3\nout x", spans(-7, 2), "", "e"},
		{"in a 10 20\nin b -3 5\nset x = a / b\nout x", spans(-20, 20), "", "ze"},
		{"in a 10 20\nin b 0 5\nset x = a / b\nout x", spans(2, 20), "", "ze"},
		{"in a 10 20\nin b -5 0\nset x = a / b\nout x", spans(-20, -2), "", "ze"},
		{"in a 10 20\nin b 2 5\nset x = a / b\nout x", spans(2, 10), "", "e"},
		{"in a 10 20\nin b -5 -2\nset x = a / b\nout x", spans(-10, -2), "", "e"},
		{"in a 10 20\nin b -1 1\nset x = a / b\nout x", spans(-20, 20), "", "ze"},
		{"in a 10 20\nin b 0 1\nset x = a / b\nout x", spans(10, 20), "", "ze"},
		{"in a 10 20\nin b -1 0\nset x = a / b\nout x", spans(-20, -10), "", "ze"},
		{"in a 10 20\nin b 0 0\nset x = a / b\nout x", spans(1, 0), "", "z"},
		{"set x = 5\nset y = 9 / 0\nout x", spans(1, 0), "", "z"},
		// Beyond, and just not.
		{big + "out m", spans(most, most), "", "e"},
		{big + "set m = 0 - m\nout m", spans(-most, -most), "", "e"},
		{big + "set x = m + 1\nout x", spans(1, 0), "", "b"},
		{big + "set x = -1 - m\nout x", spans(1, 0), "", "b"},
		{big + "set x = m * m\nout x", spans(1, 0), "", "b"},
		{big + "set x = m * (0 - m)\nout x", spans(1, 0), "", "b"},
		{big + "set x = m / 1 / -1\nout x", spans(-most, -most), "", "e"},
		{"in a 0 1\n" + big + "set x = m + a\nout x", spans(most, most), "", "be"},
		{"in a 0 1\n" + big + "set x = 0 - m - a\nout x", spans(-most, -most), "", "be"},
		{"in a -5 1\n" + big + "set x = m * a\nout x", spans(-most, most), "", "be"},
		{"in a -1 1\n" + big + "set x = m * a\nout x", spans(-most, most), "", "e"},
		{"in a -1 1\n" + big + "set x = m * m * a\nout x", spans(1, 0), "", "b"},
		{"in a -1 1\n" + big + "set x = m * a * m\nout x", spans(-most, most), "", "be"},
		{"in a 0 1\n" + big + "set x = (m + a) - m\nout x", spans(0, 0), "", "be"},
		{"in a 0 1000000\nset b = a * a * a\nout b", spans(0, most), "", "be"},
		{"in a 65536 65537\nset b = a * 65536\nset b = b * b\nout b", spans(1, 0), "", "b"}, // more than an int can be
		// What is behind an operation without a result is never come to.
		{"set x = 1 / 0 + 1000000 * 1000000 * 1000000\nout x", spans(1, 0), "", "z"},
		{"set x = 1000000 * 1000000 * 1000000 + 1 / 0\nout x", spans(1, 0), "", "b"},
		{"set x = min(1 / 0, 2 / 0)", nil, "", "z"},
		{"set x = 1 / (1000000 * 1000000 * 1000000)", nil, "", "b"},
		{"set x = 1 / (1 / 0 * 0)", nil, "", "z"},
		{"set x = 5\nset x = 1 / 0\nset y = 1000000 * 1000000 * 1000000\nif 1 < 2\nout x\nelse\nout x\nend\nrepeat 3\nout y\nend", spans(1, 0, 1, 0, 1, 0), "--", "z"},
	})
}

// Bounds of one operation are just those of all results.
func TestP3_5OperationsOfAllNumbers(t *testing.T) {
	ranges := spans(-4, -2, -3, 0, -2, 1, -1, -1, 0, 0, 0, 3, 1, 1, 2, 5, -6, 7)
	for kind, sum := range map[int]string{api.ValueSum: "a + b", api.ValueLess: "a - b", api.ValueTimes: "a * b", api.ValueOver: "a / b", api.ValueMin: "min(a, b)", api.ValueMax: "max(a, b)"} {
		for _, x := range ranges {
			for _, y := range ranges {
				want, zero := api.Bounds{Lo: 1, Hi: 0}, false
				for a := x.Lo; a <= x.Hi; a++ {
					for b := y.Lo; b <= y.Hi; b++ {
						n := slowResult(kind, a, b)
						if n == nil {
							zero = true
							continue
						}
						want = reach(want, int(n.Int64()))
					}
				}
				text := fmt.Sprintf("in a %d %d\nin b %d %d\nset x = %s\nout x", x.Lo, x.Hi, y.Lo, y.Hi, sum)
				if r := analysed(t, parsed(t, text)); r.Outs[0] != want || r.Zero != zero || r.Beyond {
					t.Errorf("%q: %+v; want %v, Zero %v", text, r, want, zero)
				}
			}
		}
	}
}

// reach is bounds, which may be empty, that reach to this number as well.
func reach(b api.Bounds, n int) api.Bounds {
	if b.Lo > b.Hi {
		return api.Bounds{Lo: n, Hi: n}
	}
	return api.Bounds{Lo: min(b.Lo, n), Hi: max(b.Hi, n)}
}

// branches is a source with an if in each of whose branches a and b are put out.
func branches(inputs, condition string) string {
	return inputs + "if " + condition + "\nout a\nout b\nelse\nout a\nout b\nend"
}

func TestP3_5Conditions(t *testing.T) {
	ab := "in a 2 9\nin b 5 20\n"
	expect(t, []expected{
		// Two variables.
		{branches(ab, "a < b"), spans(2, 9, 5, 20, 5, 9, 5, 9), "++", "e"},
		{branches(ab, "b < a"), spans(6, 9, 5, 8, 2, 9, 5, 20), "++", "e"},
		{branches(ab, "a = b"), spans(5, 9, 5, 9, 2, 9, 5, 20), "++", "e"},
		{branches("in a 2 9\nin b 9 20\n", "a < b"), spans(2, 9, 9, 20, 9, 9, 9, 9), "++", "e"},
		{branches("in a 2 9\nin b 10 20\n", "a < b"), spans(2, 9, 10, 20, 1, 0, 1, 0), "+-", "e"},
		{branches("in a 2 9\nin b 9 20\n", "b < a"), spans(1, 0, 1, 0, 2, 9, 9, 20), "-+", "e"},
		{branches("in a 2 9\nin b 9 20\n", "a = b"), spans(9, 9, 9, 9, 2, 9, 9, 20), "++", "e"},
		{branches("in a 2 9\nin b 10 20\n", "a = b"), spans(1, 0, 1, 0, 2, 9, 10, 20), "-+", "e"},
		{branches("in a 2 9\nin b 2 2\n", "a = b"), spans(2, 2, 2, 2, 3, 9, 2, 2), "++", "e"},
		{branches("in a 2 9\nin b 9 9\n", "a = b"), spans(9, 9, 9, 9, 2, 8, 9, 9), "++", "e"},
		{branches("in a 2 9\nin b 5 5\n", "a = b"), spans(5, 5, 5, 5, 2, 9, 5, 5), "++", "e"},
		{branches("in a 2 2\nin b 2 9\n", "a = b"), spans(2, 2, 2, 2, 2, 2, 3, 9), "++", "e"},
		{branches("in a 9 9\nin b 2 9\n", "a = b"), spans(9, 9, 9, 9, 9, 9, 2, 8), "++", "e"},
		{branches("in a 5 5\nin b 5 5\n", "a = b"), spans(5, 5, 5, 5, 1, 0, 1, 0), "+-", "e"},
		{branches("in a 5 5\nin b 6 6\n", "a = b"), spans(1, 0, 1, 0, 5, 5, 6, 6), "-+", "e"},
		{branches("in a 5 5\nin b 5 5\n", "a < b"), spans(1, 0, 1, 0, 5, 5, 5, 5), "-+", "e"},
		// A variable and something else, on either side.
		{branches(ab, "a < 5"), spans(2, 4, 5, 20, 5, 9, 5, 20), "++", "e"},
		{branches(ab, "5 < a"), spans(6, 9, 5, 20, 2, 5, 5, 20), "++", "e"},
		{branches(ab, "a = 5"), spans(5, 5, 5, 20, 2, 9, 5, 20), "++", "e"},
		{branches(ab, "2 = a"), spans(2, 2, 5, 20, 3, 9, 5, 20), "++", "e"},
		{branches(ab, "a = 9"), spans(9, 9, 5, 20, 2, 8, 5, 20), "++", "e"},
		{branches(ab, "a < b + 0"), spans(2, 9, 5, 20, 5, 9, 5, 20), "++", "e"},
		{branches(ab, "a + 0 < b"), spans(2, 9, 5, 20, 2, 9, 5, 9), "++", "e"},
		{branches(ab, "a = b + 0"), spans(5, 9, 5, 20, 2, 9, 5, 20), "++", "e"},
		{branches(ab, "a < 2"), spans(1, 0, 1, 0, 2, 9, 5, 20), "-+", "e"},
		{branches(ab, "a < 10"), spans(2, 9, 5, 20, 1, 0, 1, 0), "+-", "e"},
		{branches(ab, "9 < a"), spans(1, 0, 1, 0, 2, 9, 5, 20), "-+", "e"},
		{branches(ab, "1 < a"), spans(2, 9, 5, 20, 1, 0, 1, 0), "+-", "e"},
		{branches(ab, "a = 10"), spans(1, 0, 1, 0, 2, 9, 5, 20), "-+", "e"},
		{branches("in a 2 2\nin b 0 0\n", "a = b + 2"), spans(2, 2, 0, 0, 1, 0, 1, 0), "+-", "e"},
		{branches("in a 2 2\nin b 0 1\n", "a = b + 2"), spans(2, 2, 0, 1, 2, 2, 0, 1), "++", "e"},
	})
}

func TestP3_5OtherConditions(t *testing.T) {
	ab := "in a 2 9\nin b 5 20\n"
	expect(t, []expected{
		// No variable.
		{branches(ab, "a + 0 < b + 0"), spans(2, 9, 5, 20, 2, 9, 5, 20), "++", "e"},
		{branches(ab, "a + 0 = b + 0"), spans(2, 9, 5, 20, 2, 9, 5, 20), "++", "e"},
		{branches(ab, "a + 0 < 10"), spans(2, 9, 5, 20, 1, 0, 1, 0), "+-", "e"},
		{branches(ab, "a + 0 < 9"), spans(2, 9, 5, 20, 2, 9, 5, 20), "++", "e"},
		{branches(ab, "a + 0 < 3"), spans(2, 9, 5, 20, 2, 9, 5, 20), "++", "e"},
		{branches(ab, "a + 0 < 2"), spans(1, 0, 1, 0, 2, 9, 5, 20), "-+", "e"},
		{branches(ab, "10 = a + 0"), spans(1, 0, 1, 0, 2, 9, 5, 20), "-+", "e"},
		{branches(ab, "9 = a + 0"), spans(2, 9, 5, 20, 2, 9, 5, 20), "++", "e"},
		{branches(ab, "2 = 2"), spans(2, 9, 5, 20, 1, 0, 1, 0), "+-", "e"},
		{branches(ab, "2 = 3"), spans(1, 0, 1, 0, 2, 9, 5, 20), "-+", "e"},
		{branches(ab, "2 < 3"), spans(2, 9, 5, 20, 1, 0, 1, 0), "+-", "e"},
		{branches(ab, "3 < 3"), spans(1, 0, 1, 0, 2, 9, 5, 20), "-+", "e"},
		// The same variable on both sides.
		{branches(ab, "a < a"), spans(3, 8, 5, 20, 2, 9, 5, 20), "++", "e"},
		{branches("in a 2 3\nin b 0 0\n", "a < a"), spans(1, 0, 1, 0, 2, 3, 0, 0), "-+", "e"},
		{branches("in a 2 4\nin b 0 0\n", "a < a"), spans(3, 3, 0, 0, 2, 4, 0, 0), "++", "e"},
		{branches(ab, "a = a"), spans(2, 9, 5, 20, 2, 9, 5, 20), "++", "e"},
		{branches("in a 2 2\nin b 0 0\n", "a = a"), spans(2, 2, 0, 0, 1, 0, 1, 0), "+-", "e"},
		{branches("in a 2 2\nin b 0 0\n", "a < a"), spans(1, 0, 1, 0, 2, 2, 0, 0), "-+", "e"},
		// One that was never set, and one that is set in one branch.
		{"if 1 < 2\nelse\nset x = 5\nend\nout x\nif x < 1\nout x\nend", spans(0, 0, 0, 0), "+-+-", "e"},
		{"in a 0 9\nif a < 5\nset x = 7\nend\nout x", spans(0, 7), "++", "e"},
		// A side that has no result.
		{branches(ab, "1 / 0 < a"), spans(1, 0, 1, 0, 1, 0, 1, 0), "--", "z"},
		{branches(ab, "a = 1 / 0"), spans(1, 0, 1, 0, 1, 0, 1, 0), "--", "z"},
		{branches(ab, "1 / 0 = 1000000 * 1000000 * 1000000"), spans(1, 0, 1, 0, 1, 0, 1, 0), "--", "z"},
		{branches(ab, "1000000 * 1000000 * 1000000 < 1 / 0"), spans(1, 0, 1, 0, 1, 0, 1, 0), "--", "b"},
	})
}

// What is left of two variables is just what they can be in each branch.
func TestP3_5ConditionsOfAllNumbers(t *testing.T) {
	ranges := spans(-2, -2, -2, 0, -1, 2, 0, 0, 0, 1, 1, 3, 2, 2, -3, 3)
	for _, sign := range []string{"<", "="} {
		for _, x := range ranges {
			for _, y := range ranges {
				want := spans(1, 0, 1, 0, 1, 0, 1, 0)
				for a := x.Lo; a <= x.Hi; a++ {
					for b := y.Lo; b <= y.Hi; b++ {
						i := 2
						if sign == "<" && a < b || sign == "=" && a == b {
							i = 0
						}
						want[i], want[i+1] = reach(want[i], a), reach(want[i+1], b)
					}
				}
				text := branches(fmt.Sprintf("in a %d %d\nin b %d %d\n", x.Lo, x.Hi, y.Lo, y.Hi), "a "+sign+" b")
				taken := []bool{want[0].Lo <= want[0].Hi, want[2].Lo <= want[2].Hi}
				if r := analysed(t, parsed(t, text)); !isSame(r, api.Report{Outs: want, Taken: taken, Ends: true}) {
					t.Errorf("%q: %+v; want %v", text, r, want)
				}
			}
		}
	}
}

func TestP3_5Joins(t *testing.T) {
	a := "in a 0 9\n"
	expect(t, []expected{
		{a + "if a < 5\nset x = 10 / (a + 1)\nelse\nset x = 0 - a\nend\nout x", spans(-9, 10), "++", "e"},
		{a + "if a < 5\nset a = 20\nelse\nset a = 30\nend\nout a", spans(20, 30), "++", "e"},
		{a + "if a < 5\nelse\nset a = 0\nend\nout a", spans(0, 4), "++", "e"},
		{a + "if a < 5\nset x = 1 / 0\nend\nout a", spans(5, 9), "++", "ze"},
		{a + "if a < 5\nelse\nset x = 1 / 0\nend\nout a", spans(0, 4), "++", "ze"},
		{a + "if a < 5\nset x = 1 / 0\nelse\nset x = 1 / 0\nend\nout a", spans(1, 0), "++", "z"},
		{a + "if a < 0\nset x = 1000000 * 1000000 * 1000000\nelse\nset x = 3\nend\nout x", spans(3, 3), "-+", "e"},
		{a + "if a = 0\nset a = 1\nend\nset b = 9 / a\nout b", spans(1, 9), "++", "e"},
		{a + "if a < 5\nif a < 3\nset x = 1\nelse\nout a\nset x = 2\nend\nelse\nif 7 < a\nout a\nset x = 3\nend\nend\nout x", spans(3, 4, 8, 9, 0, 3), "++++++", "e"},
		{a + "if a < 5\nset b = a\nif b < 3\nout a\nout b\nend\nend\nout a", spans(0, 4, 0, 2, 0, 9), "++++", "e"},
		{"in a 1 9\nif a < 5\nset x = 10 / a\nelse\nset x = 0\nend\nout x", spans(0, 10), "++", "e"},
		{"in a 0 9\nif a < 5\nset x = 10 / a\nelse\nset x = 0\nend\nout x", spans(0, 10), "++", "ze"},
		{"in a 0 9\nif a < 0\nout a\nend", spans(1, 0), "-+", "e"},
	})
}

func TestP3_5Repeats(t *testing.T) {
	expect(t, []expected{
		{"in a 0 2\nset x = 0\nrepeat 3\nset x = x + a\nout x\nend\nout x", spans(0, 6, 0, 6), "", "e"},
		{"set x = 1\nrepeat 4\nset x = x * 3\nout x\nend\nout x", spans(3, 81, 81, 81), "", "e"},
		{"set x = 1\nrepeat 0\nset x = 1 / 0\nout x\nif 1 < 2\nend\nend\nout x", spans(1, 0, 1, 1), "--", "e"},
		{"set x = 3\nrepeat 5\nset x = x - 1\nset y = 12 / x\nout x\nend\nout y", spans(1, 2, 1, 0), "", "z"},
		{"in a 0 5\nrepeat 2\nif a < 3\nset a = a + 2\nend\nout a\nend", spans(2, 5), "++", "e"},
		{"set x = 1000000\nrepeat 3\nout x\nset x = x * 1000\nend", spans(1000000, 1000000000000), "", "b"},
		{"set x = 5\nrepeat 3\nif x = 5\nset x = 6\nelse\nset x = 5\nend\nend\nout x", spans(6, 6), "++", "e"},
		{"set x = 5\nrepeat 1\nif x = 5\nset x = 6\nelse\nset x = 5\nend\nend\nout x", spans(6, 6), "+-", "e"},
	})
}

func TestP3_6Outs(t *testing.T) {
	expect(t, []expected{
		{"in value 0 1000\nset d = value * 5 / 100\nout d", spans(0, 50), "", "e"},
		{"in a 0 9\nin b 20 30\nout b\nif a < 5\nout a\nelse\nout b\nend\nout a", spans(20, 30, 0, 4, 20, 30, 0, 9), "++", "e"},
		{"in a 0 9\nif a < 5\nif 6 < a\nout a\nend\nelse\nout a\nend\nout a", spans(1, 0, 5, 9, 0, 9), "++-+", "e"},
		{"set x = 1\nout x\nset x = 1 / 0\nout x\nif x < 1\nout x\nend", spans(1, 1, 1, 0, 1, 0), "--", "z"},
		{"set x = -5\nrepeat 3\nout x\nset x = x + 4\nend", spans(-5, 3), "", "e"},
	})
}

func TestP3_6Fuel(t *testing.T) {
	six := []string{"set x = 2", "set x = 2", "if x < 3", "set x = 3", "else", "set x = 1 / 0", "end", "repeat 0", "set x = 1", "end", "out x"}
	both := "in a 0 9\n" + fuelled("set x = 2", "set x = 2", "if a < 3", "set x = 3", "else", "set x = 4", "end", "out x")
	cases := []struct {
		text string
		want api.Errno
	}{
		{fuelled(six...), api.OK},
		{fuelled(append(six, "set x = 1")...), api.ErrFuel},
		{fuelled(append(six, "out x")...), api.ErrFuel},
		{fuelled(append([]string{"out x"}, six...)...), api.ErrFuel},
		{fuelled(append(six, "repeat 0", "end")...), api.ErrFuel},
		{fuelled(append(six, "if 1 < 2", "end")...), api.ErrFuel},
		{both, api.OK},
		{both + "set x = 1\n", api.ErrFuel}, // though no run goes through more than 20000 steps
		{fuelled(append(six[:len(six)-1:len(six)-1], "set x = 1 / 0", "out x", "set x = 1")...), api.OK}, // nothing is gone through behind a place that is never come to
		{"set x = 1 / 0\n" + fuelled(append(six, "out x", "out x")...), api.OK},
		{"if 2 < 1\n" + fuelled(append(six, "out x", "out x")...) + "end", api.OK},
		{"if 1 < 2\n" + fuelled(append(six, "out x", "out x")...) + "end", api.ErrFuel},
		{lines("repeat 50", "repeat 50", "repeat 50", "end", "end", "end"), api.OK},
		{lines("repeat 50", "repeat 50", "repeat 50", "set x = 1", "end", "end", "end"), api.ErrFuel},
		{strings.Repeat("repeat 50\n", 10) + strings.Repeat("end\n", 10), api.ErrFuel},
	}
	for _, c := range cases {
		r, e := duty.Analyse(parsed(t, c.text))
		if e != c.want || e != api.OK && !isSame(r, api.Report{}) {
			t.Errorf("%q: %+v, error %d; want %d", c.text, r, e, c.want)
		}
	}
	p := parsed(t, both+"set x = 1\n")
	if list, e := duty.Run(p, []int{2}); e != api.OK || len(list) != 1 {
		t.Error(list, e)
	}
}

func TestP3_6AnalyseOfRandom(t *testing.T) {
	zero, beyond, open, never := 0, 0, 0, 0
	many(4000, func(r *rand.Rand, p api.Program) {
		want, wantError := slowAnalyse(p)
		got, e := duty.Analyse(p)
		if !isSame(got, want) || e != wantError {
			t.Errorf("%q: %+v, error %d; want %+v, error %d", printed(t, p), got, e, want, wantError)
		}
		for _, taken := range got.Taken {
			if !taken {
				never++
			}
		}
		for n, is := range map[*int]bool{&zero: got.Zero, &beyond: got.Beyond, &open: !got.Ends} {
			if is {
				*n++
			}
		}
	})
	if zero < 300 || beyond < 100 || open < 100 || never < 300 {
		t.Error(zero, beyond, open, never)
	}
}
