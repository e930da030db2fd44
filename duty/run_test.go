package duty_test

import (
	"math/rand/v2"
	"slices"
	"strings"
	"testing"

	"cocket/api"
	"cocket/duty"
)

func TestP3_3Run(t *testing.T) {
	cases := []struct {
		text   string
		inputs []int
		want   []int
		e      api.Errno
	}{
		{"", nil, nil, api.OK},
		{"in value 0 1000\nset d = value * 5 / 100\nout d", []int{999}, []int{49}, api.OK},
		{"in a 0 9\nin b 0 9\nout b\nout a\nset a = b\nout a", []int{3, 4}, []int{4, 3, 4}, api.OK},
		{"set x = 7 / 2\nout x\nset x = -7 / 2\nout x\nset x = 7 / -2\nout x\nset x = -7 / -2\nout x\nset x = -8 / 2\nout x\nset x = 0 / -5\nout x", nil, []int{3, -4, -4, 3, -4, 0}, api.OK},
		{"set x = 2 - 3 - 4\nout x\nset x = 2 * 3 + 4 * 5\nout x\nset x = min(2, 3) - max(2, 3)\nout x\nset x = 100 / 7 / 2\nout x", nil, []int{-5, 26, -1, 7}, api.OK},
		{"in a 0 9\nif a < 5\nset x = 1\nend\nout x", []int{4}, []int{1}, api.OK},
		{"in a 0 9\nif a < 5\nset x = 1\nend\nout x", []int{5}, []int{0}, api.OK}, // never set
		{"in a 0 9\nif a = 5\nout a\nelse\nset a = 0 - a\nout a\nend", []int{5}, []int{5}, api.OK},
		{"in a 0 9\nif a = 5\nout a\nelse\nset a = 0 - a\nout a\nend", []int{6}, []int{-6}, api.OK},
		{"repeat 0\nset x = 1\nend\nout x", nil, []int{0}, api.OK},
		{"set x = 1\nrepeat 3\nset x = x * 2\nout x\nend\nout x", nil, []int{2, 4, 8, 8}, api.OK},
		{"set x = 524288 * 524288 * 4\nout x\nset y = 0 - x\nout y", nil, []int{1 << 40, -1 << 40}, api.OK},
		{"set x = 524288 * 524288 * 4\nout x\nset x = x * -1\nout x\nset x = x / -1\nout x", nil, []int{1 << 40, -1 << 40, 1 << 40}, api.OK},
		{"set x = 524288 * 524288 * 4\nset x = x + 1\nout x", nil, nil, api.ErrRange},
		{"set x = 524288 * 524288 * 4\nset x = 0 - x - 1", nil, nil, api.ErrRange},
		{"set x = 524288 * 524288 * 4\nset x = x * x", nil, nil, api.ErrRange},
		{"set x = 524288 * 524288 * 4\nset x = x * x / x", nil, nil, api.ErrRange},
		{"set x = 524288 * 524288 * 4\nset x = x * (0 - x)", nil, nil, api.ErrRange},
		{"set x = 524288 * 524288 * 4\nset x = x * 2 * 0", nil, nil, api.ErrRange},
		{"set x = 524288 * 524288 * 4\nset x = 0 * x + x - x\nout x", nil, []int{0}, api.OK},
		{"set x = 65536 * 65536\nset x = x * x\nout x", nil, nil, api.ErrRange}, // 2 to the power of 64
		{"set x = 1 / 0", nil, nil, api.ErrZero},
		{"set x = 0 / 0", nil, nil, api.ErrZero},
		{"in a 0 9\nout a\nset x = 5 / a", []int{0}, nil, api.ErrZero},
		{"in a 0 9\nif 1 < 2 / a\nend", []int{0}, nil, api.ErrZero},
		{"in a 0 9\nif 2 / a < 2\nend", []int{0}, nil, api.ErrZero},
		{"in a 0 9\nif a = 0\nelse\nset x = 9 / a\nend\nout x", []int{0}, []int{0}, api.OK},
		// The first error, from left to right and from the inside out.
		{"set x = 1 / 0 + 1000000 * 1000000 * 1000000", nil, nil, api.ErrZero},
		{"set x = 1000000 * 1000000 * 1000000 + 1 / 0", nil, nil, api.ErrRange},
		{"set x = 1000000 * 1000000 * (1000000 / 0)", nil, nil, api.ErrZero},
		{"set x = 1000000 * 1000000 * 1000000 / 0", nil, nil, api.ErrRange},
		{"set x = min(1 / 0, 1000000 * 1000000 * 2)", nil, nil, api.ErrZero},
		{"set x = max(1000000 * 1000000 * 2, 1 / 0)", nil, nil, api.ErrRange},
		{"if 1 / 0 < 1000000 * 1000000 * 2\nend", nil, nil, api.ErrZero},
		{"if 1000000 * 1000000 * 2 = 1 / 0\nend", nil, nil, api.ErrRange},
	}
	for _, c := range cases {
		if got, e := duty.Run(parsed(t, c.text), c.inputs); !slices.Equal(got, c.want) || e != c.e {
			t.Errorf("%q of %v: %v, error %d; want %v, error %d", c.text, c.inputs, got, e, c.want, c.e)
		}
	}
}

func TestP3_3Inputs(t *testing.T) {
	p := parsed(t, "in a -2 5\nin b 7 7\nout a")
	for _, c := range []struct {
		inputs []int
		want   api.Errno
	}{
		{[]int{-2, 7}, api.OK}, {[]int{5, 7}, api.OK}, {[]int{0, 7}, api.OK},
		{nil, api.ErrArg}, {[]int{0}, api.ErrArg}, {[]int{0, 7, 7}, api.ErrArg},
		{[]int{-3, 7}, api.ErrArg}, {[]int{6, 7}, api.ErrArg}, {[]int{0, 6}, api.ErrArg}, {[]int{0, 8}, api.ErrArg},
	} {
		if got, e := duty.Run(p, c.inputs); e != c.want || e == api.OK && !slices.Equal(got, c.inputs[:1]) || e != api.OK && len(got) != 0 {
			t.Errorf("%v: %v, error %d; want error %d", c.inputs, got, e, c.want)
		}
		if got, e := duty.Trace(p, c.inputs); e != c.want || len(got) != 0 {
			t.Errorf("Trace of %v: %v, error %d; want error %d", c.inputs, got, e, c.want)
		}
	}
	none := parsed(t, "set x = 1\nout x")
	if _, e := duty.Run(none, []int{0}); e != api.ErrArg {
		t.Error(e)
	}
}

// fuelled is a program that goes through 20000 steps, whatever it does in the last six of them.
func fuelled(last ...string) string {
	first := "set x = 1"
	return lines("repeat 49", "repeat 50", "repeat 7", first, "end", "end", "end", // 1 + 49 * (1 + 50 * (1 + 7)) = 19650
		"repeat 49", first, first, first, first, first, first, first, "end") + // 1 + 49 * 7 = 344
		lines(last...)
}

func TestP3_3Fuel(t *testing.T) {
	six := []string{"set x = 2", "set x = 2", "if x < 3", "set x = 3", "end", "repeat 0", "end", "out x"}
	cases := []struct {
		text string
		want []int
		e    api.Errno
	}{
		{fuelled(six...), []int{3}, api.OK},
		{fuelled(append(six, "set x = 1")...), nil, api.ErrFuel},
		{fuelled(append(six, "out x")...), nil, api.ErrFuel},
		{fuelled(append([]string{"out x"}, six...)...), nil, api.ErrFuel},
		{fuelled(append(six, "repeat 0", "end")...), nil, api.ErrFuel},
		{fuelled(append(six, "if 1 < 2", "end")...), nil, api.ErrFuel},
		{fuelled(append(six, "set x = 1 / 0")...), nil, api.ErrFuel},
		{fuelled(append([]string{"set x = 1 / 0"}, six...)...), nil, api.ErrZero},
		{fuelled(append([]string{"set x = 1000000 * 1000000 * 1000000"}, six...)...), nil, api.ErrRange},
		{lines("repeat 50", "repeat 50", "repeat 50", "end", "end", "end"), nil, api.OK},
		{lines("repeat 50", "repeat 50", "repeat 50", "set x = 1", "end", "end", "end"), nil, api.ErrFuel},
		{strings.Repeat("repeat 50\n", 10) + strings.Repeat("end\n", 10), nil, api.ErrFuel},
	}
	for _, c := range cases {
		p := parsed(t, c.text)
		if got, e := duty.Run(p, nil); !slices.Equal(got, c.want) || e != c.e {
			t.Errorf("%q: %v, error %d; want %v, error %d", c.text, got, e, c.want, c.e)
		}
		if _, e := duty.Trace(p, nil); e != c.e {
			t.Errorf("Trace of %q: error %d; want %d", c.text, e, c.e)
		}
	}
}

func TestP3_3RunOfRandom(t *testing.T) {
	errors := map[api.Errno]int{}
	many(3000, func(r *rand.Rand, p api.Program) {
		for range 5 {
			inputs := randomInputs(r, p)
			want, wantTaken, wantError := slowRun(p, inputs)
			errors[wantError]++
			if got, e := duty.Run(p, inputs); !slices.Equal(got, want) || e != wantError {
				t.Errorf("%q of %v: %v, error %d; want %v, error %d", printed(t, p), inputs, got, e, want, wantError)
			}
			if taken, e := duty.Trace(p, inputs); !slices.Equal(taken, wantTaken) || e != wantError {
				t.Errorf("Trace of %q of %v: %v, error %d; want %v, error %d", printed(t, p), inputs, taken, e, wantTaken, wantError)
			}
		}
	})
	if errors[api.OK] < 1000 || errors[api.ErrZero] < 100 || errors[api.ErrRange] < 50 {
		t.Error(errors)
	}
}

func TestP3_4Branches(t *testing.T) {
	cases := []struct {
		text   string
		inputs []int
		want   []bool
	}{
		{"", nil, nil},
		{"set x = 1\nrepeat 2\nout x\nend", nil, nil},
		{"in a 0 9\nif a < 5\nend", []int{4}, []bool{true, false}},
		{"in a 0 9\nif a < 5\nend", []int{5}, []bool{false, true}},
		{"in a 0 9\nif a = 5\nelse\nend", []int{5}, []bool{true, false}},
		{"in a 0 9\nif a < 5\nif a < 3\nend\nelse\nif a < 7\nend\nend\nif 1 < 2\nend", []int{2}, []bool{true, false, true, false, false, false, true, false}},
		{"in a 0 9\nif a < 5\nif a < 3\nend\nelse\nif a < 7\nend\nend\nif 1 < 2\nend", []int{8}, []bool{false, true, false, false, false, true, true, false}},
		{"in a 0 9\nrepeat 3\nif a < 5\nset a = a + 1\nend\nend", []int{4}, []bool{true, true}},
		{"in a 0 9\nrepeat 3\nif a < 5\nset a = a + 1\nend\nend", []int{1}, []bool{true, false}},
		{"repeat 0\nif 1 < 2\nend\nend", nil, []bool{false, false}},
	}
	for _, c := range cases {
		p := parsed(t, c.text)
		if n, e := duty.Branches(p); n != len(c.want) || e != api.OK {
			t.Errorf("%q: %d branches, error %d; want %d", c.text, n, e, len(c.want))
		}
		if got, e := duty.Trace(p, c.inputs); !slices.Equal(got, c.want) || e != api.OK {
			t.Errorf("%q of %v: %v, error %d; want %v", c.text, c.inputs, got, e, c.want)
		}
	}
	for text, want := range map[string]api.Errno{
		"if 1 < 2\nend\nset x = 1 / 0":                                    api.ErrZero,
		"if 1 < 2\nend\nset x = 1000000 * 1000000 * 1000000":              api.ErrRange,
		repeated("repeat 50", 4) + "if 1 < 2\nend\n" + repeated("end", 4): api.ErrFuel,
	} {
		p := parsed(t, text)
		if got, e := duty.Trace(p, nil); len(got) != 0 || e != want {
			t.Errorf("%q: %v, error %d; want %d", text, got, e, want)
		}
		if n, e := duty.Branches(p); n != 2 || e != api.OK {
			t.Errorf("%q: %d branches, error %d", text, n, e)
		}
	}
}
