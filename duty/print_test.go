package duty_test

import (
	"math/rand/v2"
	"strings"
	"testing"

	"cocket/api"
	"cocket/duty"
)

func TestP3_2Print(t *testing.T) {
	cases := []struct{ text, want string }{
		{"", ""},
		{"\n \n", ""},
		{" in  a-5   9", "in a -5 9\n"},
		{"if 1<2\nelse\nend", "if 1 < 2\nend\n"},
		{"if 1=2\nelse\nset x=1\nend", "if 1 = 2\nelse\nset x = 1\nend\n"},
		{"if 1<2\nrepeat 3\nset x=1\nend\nelse\nout x\nend", "if 1 < 2\nrepeat 3\nset x = 1\nend\nelse\nout x\nend\n"},
		{"set x=(((1)))", "set x = 1\n"},
		{"set x=((1+2)+3)", "set x = 1 + 2 + 3\n"},
		{"set x=(1+(2+3))", "set x = 1 + (2 + 3)\n"},
		{"set x=(1-2)-(3-4)", "set x = 1 - 2 - (3 - 4)\n"},
		{"set x=1+(2*3)", "set x = 1 + 2 * 3\n"},
		{"set x=(1*2)+(3/4)", "set x = 1 * 2 + 3 / 4\n"},
		{"set x=(1+2)*(3-4)", "set x = (1 + 2) * (3 - 4)\n"},
		{"set x=(1*2)/(3*4)", "set x = 1 * 2 / (3 * 4)\n"},
		{"set x=1/(2/3)", "set x = 1 / (2 / 3)\n"},
		{"set x=min((1+2),((3)))", "set x = min(1 + 2, 3)\n"},
		{"set x=(min(1,2)+3)*(max(1,2))", "set x = (min(1, 2) + 3) * max(1, 2)\n"},
		{"set x=min(max(1,2)*3,(4+5)*6)", "set x = min(max(1, 2) * 3, (4 + 5) * 6)\n"},
		{"set x=(-1)--1*(-1)", "set x = -1 - -1 * -1\n"},
		{"set x=1\nif (x)<(x+1)*2\nend", "set x = 1\nif x < (x + 1) * 2\nend\n"},
		{"repeat 50\nend", "repeat 50\nend\n"},
	}
	for _, c := range cases {
		if text, e := duty.Print(parsed(t, c.text)); text != c.want || e != api.OK {
			t.Errorf("%q: %q, error %d; want %q", c.text, text, e, c.want)
		}
	}
}

// Whoever leaves a pair of parentheses out changes the program, or its source has no form.
func TestP3_2FewParentheses(t *testing.T) {
	tried := 0
	many(800, func(r *rand.Rand, p api.Program) {
		text := printed(t, p)
		for i := range text {
			if text[i] != '(' || strings.HasSuffix(text[:i], "min") || strings.HasSuffix(text[:i], "max") {
				continue
			}
			open, j := 1, i+1
			for ; open > 0; j++ {
				switch text[j] {
				case '(':
					open++
				case ')':
					open--
				}
			}
			tried++
			without := text[:i] + text[i+1:j-1] + text[j:]
			if q, _, e := duty.Parse(without); e == api.OK && isSame(p, q) {
				t.Errorf("%q: the same without the parentheses at %d", text, i)
			}
		}
	})
	if tried < 500 {
		t.Error("only", tried)
	}
}

// A source may be short enough though the one that Print would return is not.
func TestP3_2LongPrograms(t *testing.T) {
	sum := "1000000" + strings.Repeat(" + 1000000", 9)
	most := repeated("set abcdefgh = "+sum, 26) // of 113 bytes each
	for _, c := range []struct {
		text string
		size int
		want api.Errno
	}{
		{most + "set x = 1000000 + 1000000 + 1000000 + 1000000 + 1000000 + 100\n", 3000, api.OK},
		{most + "set x = 1000000 + 1000000 + 1000000 + 1000000 + 1000000 + 1000\n", 3001, api.ErrArg},
		{repeated("set abcdefgh = "+sum, 30), 3390, api.ErrArg},
	} {
		if len(c.text) != c.size {
			t.Fatal(len(c.text))
		}
		p := parsed(t, strings.ReplaceAll(c.text, " + ", "+"))
		text, e := duty.Print(p)
		if e != c.want || e == api.OK && text != c.text || e != api.OK && text != "" {
			t.Errorf("%d bytes: %q, error %d; want error %d", c.size, text, e, c.want)
		}
		for call, got := range calls(p, nil) {
			if got.e != c.want {
				t.Errorf("%d bytes: %s: error %d; want %d", c.size, call, got.e, c.want)
			}
		}
	}
}

func TestP3_2NotValid(t *testing.T) {
	for name, p := range notValid() {
		for call, got := range calls(p, nil) {
			if got.e != api.ErrArg || !got.zero {
				t.Errorf("%s: %s: error %d, zero values %v; want ErrArg", name, call, got.e, got.zero)
			}
		}
	}
}

// An empty list is as good as none.
func TestP3_2EmptyLists(t *testing.T) {
	empty := api.Value{N: 1, Parts: []api.Value{}}
	p := api.Program{Inputs: []api.Input{}, Steps: []api.Step{
		{Kind: api.StepSet, Name: "x", A: empty, B: api.Value{Parts: []api.Value{}}, Then: []api.Step{}, Else: []api.Step{}},
		{Kind: api.StepIf, A: empty, B: empty, Then: []api.Step{}, Else: []api.Step{}},
	}}
	if text, e := duty.Print(p); text != "set x = 1\nif 1 < 1\nend\n" || e != api.OK {
		t.Error(text, e)
	}
	if list, e := duty.Run(p, nil); len(list) != 0 || e != api.OK {
		t.Error(list, e)
	}
}
