package house_test

import (
	"fmt"
	"slices"
	"strings"
	"testing"

	"cocket/api"
	"cocket/house"
)

func TestExamples(t *testing.T) {
	says(t, house.New(),
		"money crown", "ok",
		"money florin", "ok",
		"offer florin crown 5 2", "ok",
		"offer crown florin 1 3", "ok",
		"offer crown florin 1 2", "! 10",
		"rate florin crown", "5/2",
		"band 0 500 0 1000 7", "rule 1",
		"gap", "500 0",
		"formula ten in v 0 100000;set d = v / 10;out d", "0 10000",
		"formula free in v 0 100000;out z", "! 5",
		"charge 7 ten 0 100", "ok",
		"enter silk 40 florin 3 9", "ok",
		"due silk 5", "10",
		"known 7 5 6", "! 6",
		"known 7 5 7", "ten",
		"enter lace 6 florin 3 9", "ok",
		"join cloth silk lace", "ok",
		"sources cloth", "lace silk",
		"clear cloth 5", "11",
		"audit", "good 11 3 0 1 11",
		"divide 3 200 100 200 300", "50 75 75 / 1",
		"looks 2 1", "1/3",
	)
}

func TestP10_1New(t *testing.T) {
	h := house.New()
	if book, audit := h.Book(), h.Audit(); len(book) > 0 || audit != (api.Audit{Good: true}) {
		t.Errorf("%q, %v", book, audit)
	}
	says(t, h,
		"audit", "good 0 0 0 0 0", "round", "none 0", "gap", "0 0", "dead", "none", "code 0 0", "! 6", "rate a a", "! 6",
		"known 0 0 0", "! 6", "known 0 0 1", "! 4", "charges 0 0", "none", "charges 0 1", "! 4", "due a 0", "! 6", "sources a", "! 6",
		"arrive 0 1 0", "! 10", "arrive 2 2 7", "7", "enter a 1 a 0 0", "! 6", "charge 0 a 0 1", "! 6", "join a b c", "! 6", "clear a 0", "! 6", "offer a b 1 1", "! 6")
	other := house.New()
	does(t, h, "money crown")
	if len(other.Book()) > 0 {
		t.Errorf("%q", other.Book())
	}
}

func TestP10_2LinesWithoutWords(t *testing.T) {
	h := of(t, shop()...)
	for _, count := range []int{0, 1, 7, 300, 301, 100000} {
		says(t, h, strings.Repeat(" ", count), "")
	}
}

func TestP10_2LongLines(t *testing.T) {
	for _, line := range []string{"round", "  round", "if round"} {
		for count, want := range map[int]string{300: "none 0", 301: "? line", 302: "? line", 5000: "? line"} {
			says(t, house.New(),
				line+strings.Repeat(" ", count-len(line)), want,
				strings.Repeat(" ", count-len(line))+line, want)
		}
	}
	says(t, house.New(), "money "+strings.Repeat("a", 294), "? word 1", "money "+strings.Repeat("a", 295), "? line")
}

func TestP10_2EveryByte(t *testing.T) {
	for b := range 256 {
		c := string([]byte{byte(b)})
		if b == ' ' {
			continue
		}
		line, word := "? line", "? line"
		if b > ' ' && b < 127 {
			line, word = "! 5", "? word 2"
		}
		says(t, house.New(),
			"round"+c, "? line", c+"round", "? line", "round "+c, "? line", c, "? line", "   "+c+"   ", "? line",
			"formula f "+c+"9", line, // a word of any kind, which is no formula
			"looks 1 "+c+"x", word, "looks 1 x"+c, word)
	}
}

func TestP10_2Blanks(t *testing.T) {
	h := house.New()
	says(t, h, "  money   crown ", "ok", "money florin", "ok", " offer  crown florin   1  2", "ok", "     rate crown    florin", "1/2")
	if want := []string{"money crown", "money florin", "offer crown florin 1 2"}; !slices.Equal(h.Book(), want) {
		t.Errorf("%q", h.Book())
	}
}

func TestP10_2NoCommands(t *testing.T) {
	h := house.New()
	for _, word := range []string{"fly", "Money", "MONEY", "moneys", "mone", "money,", "?", "!", "0", "ok", "book", "exec", "out", "iff"} {
		says(t, h, word, "? line", word+" crown", "? line")
	}
}

// shapes is the table of the chapter: parameters of each command that are all of their kind.
func shapes() []string {
	return []string{
		"money crown", "offer crown florin 1 2", "band 0 1 0 1 0", "formula f x", "formula f in v 0 9;out v", "charge 0 f 0 1", "enter silk 1 crown 0 0",
		"join a b c", "join a b c d", "join a b c d e", "clear silk 0", "leg 0 1 2 3 4", "rate crown florin", "round", "code 0 0", "gap", "dead", "known 0 0 0", "charges 0 0",
		"due silk 0", "sources silk", "divide 0 0 0", "divide 0 0 0 0", "divide 0 0 0 0 0", "divide 0 0 0 0 0 0", "divide 0 0 0 0 0 0 0", "divide 0 0 0 0 0 0 0 0", "divide 0 0 0 0 0 0 0 0 0",
		"looks 0 0", "arrive 0 1 0", "audit", "if audit",
	}
}

// isShape reports whether one of the shapes has this name and so many words.
func isShape(words []string) bool {
	return slices.ContainsFunc(shapes(), func(shape string) bool {
		other := strings.Fields(shape)
		return other[0] == words[0] && (len(other) == len(words) || len(other) > 1 && len(words) > len(other) && (words[0] == "formula" || words[0] == "if"))
	})
}

func TestP10_3Counts(t *testing.T) {
	for _, shape := range shapes() {
		words := strings.Fields(shape)
		for count := range 13 {
			line := slices.Clone(words[:min(count+1, len(words))])
			for len(line) <= count {
				line = append(line, words[len(words)-1])
			}
			reply := house.New().Exec(strings.Join(line, " "))
			if is := reply != "? line"; is != isShape(line) && words[0] != "if" {
				t.Errorf("%q: %q", line, reply)
			}
		}
	}
	says(t, house.New(), "if", "? line", "  if  ", "? line", "if fly", "? line", "if money", "? line", "if money a b", "? line", "if if", "? line", "if if money a", "ok", "formula f", "? line")
}

func TestP10_3Kinds(t *testing.T) {
	for _, shape := range shapes() {
		words := strings.Fields(shape)
		if words[0] == "if" {
			continue
		}
		for i := 1; i < len(words); i++ {
			if words[0] == "formula" && i > 1 {
				break // any words are
			}
			bad := []string{"Crown", "abcdefghi", "a1", "7", "-1", "a-b", "_"}
			if words[i][0] >= '0' && words[i][0] <= '9' {
				bad = []string{"x", "-0", "00", "01", "+1", "-", "1x", "1125899906842625"}
			}
			for _, word := range bad {
				line := slices.Clone(words)
				line[i] = word
				want := fmt.Sprint("? word ", i)
				says(t, house.New(), strings.Join(line, " "), want, "if "+strings.Join(line, " "), want)
				for j := i + 1; j < len(line); j++ {
					line[j] = "~" // the first one is told
				}
				says(t, house.New(), strings.Join(line, " "), want)
			}
		}
	}
}

// What is no word of its kind comes before what is refused, and the number of parameters before that.
func TestP10_2WhichReply(t *testing.T) {
	h := of(t, shop()...)
	says(t, h,
		"offer crown crown 0 x", "? word 4", "offer none crown x 0", "? word 3", "offer none crown x", "? line", "enter silk 0 none -1 -0", "? word 5",
		"join silk silk Silk", "? word 3", "join silk silk Silk x x x", "? line", "money CROWN CROWN", "? line", "divide 9 9 9 9 9 9 9 9 x", "? word 9", "divide 9 9 9 9 9 9 9 9 9 x", "? line")
}

func TestP10_2Numbers(t *testing.T) {
	good := []string{"0", "1", "-1", "10", "-10", "999999999999999", "1125899906842624", "-1125899906842624"}
	bad := []string{"-0", "00", "01", "-01", "+1", "+0", "--1", "1-", "1.0", "1e3", "0x1", "1_000", "1,000", "1125899906842625", "-1125899906842625", "9223372036854775807", "-9223372036854775808", "9223372036854775808", "18446744073709551616", "99999999999999999999999999", strings.Repeat("1", 200), "-", "a", "~"}
	for _, word := range good {
		for n, line := range []string{"looks " + word + " 99", "looks 99 " + word, "divide " + word + " -1 0", "known -1 " + word + " 0", "charges " + word + " 1"} {
			if reply := house.New().Exec(line); !strings.HasPrefix(reply, "! ") {
				t.Errorf("%d %q: %q", n, line, reply)
			}
		}
	}
	for _, word := range bad {
		says(t, house.New(), "looks "+word+" 0", "? word 1", "looks 0 "+word, "? word 2", "leg 0 0 0 0 "+word, "? word 5")
	}
}

func TestP10_2Names(t *testing.T) {
	for _, name := range []string{"a", "z", "abcdefgh", "ok", "none", "if", "money", "in", "out"} {
		says(t, house.New(), "money "+name, "ok", "rate "+name+" "+name, "1/1")
	}
	for _, name := range []string{"abcdefghi", "A", "aB", "a1", "1", "-", "a-b", "a.", "`", "{", "@"} {
		says(t, house.New(), "money "+name, "? word 1", "rate a "+name, "? word 2")
	}
}

func TestP10_4Money(t *testing.T) {
	h := house.New()
	for _, name := range []string{"a", "b", "c", "d", "e", "f"} {
		says(t, h, "money "+name, "ok", "money "+name, "! 7")
	}
	says(t, h, "money g", "! 8", "money a", "! 7", "rate f a", "! 10", "rate g a", "! 6", "rate a g", "! 6")
}

// One money alone has a rate into itself, and no offers.
func TestP10_4OneMoney(t *testing.T) {
	says(t, of(t, "money a"), "rate a a", "1/1", "rate a b", "! 6", "rate b a", "! 6", "rate b b", "! 6", "offer a a 1 1", "! 2", "offer a b 1 1", "! 6", "round", "none 0")
}

func TestP10_4Offer(t *testing.T) {
	h := of(t, "money a", "money b", "money c")
	says(t, h,
		"offer a x 0 0", "! 6", "offer x a 1 1", "! 6", "offer x x 1 1", "! 6", "offer a a 1 1", "! 2",
		"offer a b 0 1", "! 2", "offer a b 1 0", "! 2", "offer a b 51 1", "! 2", "offer a b 1 51", "! 2", "offer a b -1 1", "! 2", "offer a b 1 -1", "! 2", "offer a b 1125899906842624 1", "! 2", "round", "none 0",
		"offer a b 50 50", "ok", "rate a b", "1/1", "rate b a", "! 10", "rate b b", "1/1",
		"offer a b 3 2", "ok", "rate a b", "3/2", "offer b a 2 3", "ok", "rate b a", "2/3", "round", "none 3",
		"offer b a 34 50", "! 10", "offer b a 33 50", "ok", "rate b a", "2/3",
		"offer b c 6 1", "ok", "rate a c", "9/1", "offer c a 1 8", "! 10", "offer c a 1 9", "ok", "offer a c 10 1", "! 10", "offer a c 9 1", "ok", "round", "none 7")
}

func TestP10_4ManyOffers(t *testing.T) {
	h := of(t, "money a", "money b")
	for range 40 {
		says(t, h, "offer a b 1 2", "ok")
	}
	says(t, h, "offer a b 1 2", "! 8", "offer b a 50 1", "! 8", "offer a a 1 1", "! 2", "offer a x 1 1", "! 6", "round", "none 40", "rate a b", "1/2")
}

func TestP10_5Band(t *testing.T) {
	h := house.New()
	for _, bad := range []string{
		"-1 5 0 5 1", "5 5 0 5 1", "6 5 0 5 1", "0 1001 0 5 1", "1000 1000 0 5 1", "0 5 -1 5 1", "0 5 5 5 1", "0 5 6 5 1", "0 5 0 1001 1", "0 5 0 5 -1", "0 5 0 5 100",
		"-1125899906842624 1125899906842624 0 1 1", "0 1 0 1 1125899906842624",
	} {
		says(t, h, "band "+bad, "! 2")
	}
	says(t, h,
		"band 0 10 5 20 3", "rule 1", "code 0 5", "3", "code 9 19", "3", "code 10 5", "! 6", "code 9 20", "! 6", "code 0 4", "! 6",
		"code -1 5", "! 2", "code 0 1000", "! 2", "code 1000 0", "! 2", "code 999 999", "! 6",
		"gap", "0 0", "band 0 1000 0 5 99", "rule 2", "gap", "0 20", "dead", "none",
		"band 3 4 6 7 1", "rule 3", "band 0 1000 0 1000 0", "rule 4", "band 0 1 0 1 7", "rule 5", "gap", "none", "dead", "3 5", "code 3 6", "3", "code 999 999", "0", "code 0 0", "99")
	for i := range 19 {
		says(t, h, "band 0 1 0 1 7", fmt.Sprint("rule ", 6+i))
	}
	says(t, h, "band 0 1 0 1 7", "! 8", "band 1 1 0 1 7", "! 2")
}

func TestP10_6Formula(t *testing.T) {
	says(t, house.New(),
		"formula a in v 0 100;out v", "0 100",
		"formula a x", "! 7", "formula a in v 0 9;out v", "! 7", // whatever comes after the name
		"formula b in   v -5    9 ;  ; set d  =v*2;;out   d;", "-10 18",
		"formula c in v 0 9;if v < 3;set d = 1;else;set d = 5;end;out d", "1 5",
		"formula d in v 0 9;repeat 2;set d = 1;end;out v", "0 9",
		"formula e in v 1 9;set d = 90 / v;out d", "10 90",
		"formula f in v 3 3;out v", "3 3",
		"formula g in v 0 9;out v;set v = 1 / 1", "0 9")
	if h := of(t, "formula  b in v 0   9 ;out v"); h.Book()[0] != "formula b in v 0 9 ;out v" {
		t.Errorf("%q", h.Book())
	}
}

func TestP10_6Errors(t *testing.T) {
	for source, want := range map[string]string{
		";":                                      "! 2", // a program, but without an input
		"x":                                      "! 5",
		"in v 0 9;out d":                         "! 5",
		"in v 9 0;out v":                         "! 5",
		"in v 0 9;in v 0 9;out v":                "! 5",
		"in v 0 9;if v < 1;out v":                "! 5",
		"in v 0 1000001;out v":                   "! 5",
		"in v 0 9,out v":                         "! 5",
		"in v 0 9 out v":                         "! 5",
		"set d = 1;out d":                        "! 2",
		"in v 0 9;in w 0 9;out v":                "! 2",
		"in v 0 9":                               "! 2",
		"in v 0 9;out v;out v":                   "! 2",
		"in v 0 9;if v < 3;out v;end":            "! 2",
		"in v 0 9;repeat 1;out v;end":            "! 2",
		"in v 0 9;out v;if v = 3;else;out v;end": "! 2",
		"in v 0 9;out v;repeat 0;out v;end":      "! 2",
		"in v 0 9;repeat 1;if v < 1;else;out v;end;end":                      "! 2",
		"in v 0 9;if v < 1;out v;else;out v;end":                             "! 2",
		"in v 0 9;repeat 50;repeat 50;repeat 50;set d = 1;end;end;end;out v": "! 13",
		"in v 0 9;set d = 9 / v;out d":                                       "! 10",
		"in v 0 9;out v;set d = 9 / v":                                       "! 10",
		"in v -9 9;set d = 9 / v;out d":                                      "! 10",
		"in v 1 9;set d = 1 / 0;out d":                                       "! 10",
		"in v 1 9;out v;set d = 1 / 0":                                       "! 10",
		"in v 0 1000000;set d = v * v * v;out d":                             "! 10",
		"in v 0 1000000;set d = v * v * 2;out d":                             "! 10",
		"in v 0 1000000;set d = v * v;out d":                                 "0 1000000000000",
		"in v -1000000 1000000;set d = v * 1000000;out d":                    "-1000000000000 1000000000000",
		// What is Zero and Beyond only where the program never comes does not matter.
		"in v 0 9;if v < 0;set v = 1 / 0;end;out v": "0 9",
	} {
		says(t, house.New(), "formula f "+source, want)
	}
	// The errors of the source come before those of its analysis, and all of these before there being too many.
	h := of(t, numbered(12, "formula %s in v 0 9;out v")...)
	says(t, h, "formula more in v 0 9;out v", "! 8", "formula more in v 0 9;set d = 9 / v;out d", "! 10", "formula more x", "! 5", "formula more in v 0 9", "! 2",
		"formula more in v 0 9;repeat 50;repeat 50;repeat 50;set d = 1;end;end;end;out v", "! 13", "formula naaa in v 0 9;out v", "! 7",
		"formula more in v 0 9;repeat 50;repeat 50;repeat 50;set d = 1 / 0;end;end;end;out v;out v", "! 2")
}

func TestP10_7Charge(t *testing.T) {
	h := of(t, "formula f in v 0 9;out v", "formula g in v 0 9;out v")
	for _, bad := range []string{"-1 f 0 1", "100 f 0 1", "7 f -1 1", "7 f 1 1", "7 f 2 1", "7 f 0 10001", "7 f 10000 10000", "1125899906842624 f 0 1", "7 f -1125899906842624 1125899906842624"} {
		says(t, h, "charge "+bad, "! 2", "charge "+strings.Replace(bad, "f", "x", 1), "! 6")
	}
	says(t, h, "charges 7 2", "none", "charges 7 3", "! 4", "charge 0 f 0 10000", "ok", "charge 99 g 9999 10000", "ok", "charges 0 4", "0-10000:f", "charges 99 4", "9999-10000:g", "charges 99 3", "none",
		"known 99 9999 4", "g", "known 99 9998 4", "! 6", "known 0 0 4", "f")
}

func TestP10_7ManyCharges(t *testing.T) {
	h := of(t, "formula f in v 0 9;out v")
	for i := range 60 {
		says(t, h, fmt.Sprint("charge ", i%3, " f 0 5"), "ok")
	}
	says(t, h, "charge 1 f 0 5", "! 8", "charge 50 f 7 9", "! 8", "charge 100 f 0 5", "! 2", "charge 1 x 0 5", "! 6", "charges 1 61", "0-5:f")
}

func TestP10_7Charges(t *testing.T) {
	h := of(t, "formula f in v 0 9;out v", "formula g in v 0 9;out v", "formula h in v 0 9;out v")
	for i, step := range []struct{ charge, want string }{
		{"10 20 f", "10-20:f"},
		{"20 30 f", "10-30:f"},
		{"40 50 f", "10-30:f 40-50:f"},
		{"0 5 g", "0-5:g 10-30:f 40-50:f"},
		{"15 18 g", "0-5:g 10-15:f 15-18:g 18-30:f 40-50:f"},
		{"15 18 h", "0-5:g 10-15:f 15-18:h 18-30:f 40-50:f"},
		{"30 40 f", "0-5:g 10-15:f 15-18:h 18-50:f"},
		{"5 10 h", "0-5:g 5-10:h 10-15:f 15-18:h 18-50:f"},
		{"14 19 f", "0-5:g 5-10:h 10-50:f"},
		{"4 49 f", "0-4:g 4-50:f"},
		{"0 10000 g", "0-10000:g"},
		{"9999 10000 h", "0-9999:g 9999-10000:h"},
		{"0 1 h", "0-1:h 1-9999:g 9999-10000:h"},
	} {
		words := strings.Fields(step.charge)
		line := fmt.Sprintf("charge 7 %s %s %s", words[2], words[0], words[1])
		says(t, h, line, "ok", fmt.Sprint("charges 7 ", 4+i), step.want, fmt.Sprint("charges 8 ", 4+i), "none", fmt.Sprint("charges 7 ", 5+i), "! 4")
		if charges, e := h.Charges(7, 4+i); listed(charges) != step.want || e != api.OK {
			t.Errorf("%v, error %d", charges, e)
		}
	}
	says(t, h, "charges 7 3", "none", "charges 7 4", "10-20:f", "charges 7 9", "0-5:g 10-15:f 15-18:h 18-30:f 40-50:f", "known 7 15 8", "g", "known 7 18 8", "f", "known 7 5 8", "! 6", "known 7 4 8", "g", "known 7 30 8", "! 6")
}

// Commands of other kinds are counted, too.
func TestP10_7Known(t *testing.T) {
	h := of(t, "money crown", "formula f in v 0 9;out v", "leg 0 1 2 3 4", "charge 7 f 5 9", "money florin")
	h.Exec("money crown")  // refused
	h.Exec("if money lek") // forgotten
	h.Exec("gap")
	for known, want := range []api.Errno{api.ErrNone, api.ErrNone, api.ErrNone, api.ErrNone, api.OK, api.OK, api.ErrRange} {
		formula, e := h.Known(7, 5, known)
		if e != want || (formula == "f") != (e == api.OK) || (formula == "") != (e != api.OK) {
			t.Errorf("after %d: %q, error %d", known, formula, e)
		}
	}
	for day, want := range map[int]api.Errno{4: api.ErrNone, 5: api.OK, 8: api.OK, 9: api.ErrNone, 0: api.ErrNone, 9999: api.ErrNone} {
		if formula, e := h.Known(7, day, 5); e != want || (formula == "f") != (e == api.OK) {
			t.Errorf("day %d: %q, error %d", day, formula, e)
		}
	}
	if formula, e := h.Known(8, 5, 5); formula != "" || e != api.ErrNone {
		t.Errorf("%q, error %d", formula, e)
	}
}

func TestP10_8Enter(t *testing.T) {
	h := of(t, "money crown", "money florin")
	says(t, h,
		"enter silk 0 none 0 0", "! 6", "enter silk 0 crown 0 0", "! 2", "enter silk -1 crown 0 0", "! 2", "enter silk 1000001 crown 0 0", "! 2",
		"enter silk 5 crown -1 0", "! 2", "enter silk 5 crown 0 -1", "! 2", "enter silk 5 crown 1000 0", "! 2", "enter silk 5 crown 0 1000", "! 2", "enter silk 1125899906842624 crown 0 0", "! 2",
		"enter silk 1000000 crown 999 0", "ok", "enter lace 1 florin 0 999", "ok", "enter silk 0 none -1 -1", "! 7", "enter crown 1 crown 1 1", "ok")
	for name, want := range map[string]api.Good{
		"silk": {Name: "silk", Value: 1000000, Money: "crown", Marks: []int{999, 0}},
		"lace": {Name: "lace", Value: 1, Money: "florin", Marks: []int{0, 999}},
	} {
		if good, e := h.Good(name); fmt.Sprint(good) != fmt.Sprint(want) || e != api.OK {
			t.Errorf("%v, error %d", good, e)
		}
	}
	if good, e := h.Good("wool"); fmt.Sprint(good) != fmt.Sprint(api.Good{}) || e != api.ErrNone {
		t.Errorf("%v, error %d", good, e)
	}
}

func TestP10_8Join(t *testing.T) {
	h := of(t, append(shop(), "enter flax 1 crown 3 9", "enter hemp 1 crown 3 9", "enter jute 2 crown 3 9", "enter yarn 2 crown 4 9", "enter felt 2 crown 3 8")...)
	says(t, h,
		"join silk none none", "! 7", "join new silk silk", "! 2", "join new none none", "! 2", "join new silk none", "! 6", "join new none silk", "! 6", "join new new silk", "! 6",
		"join new silk wool", "! 10", "join new wool yarn", "! 10", "join new wool felt", "! 10", "join new wool flax felt", "! 10", "join new wool flax hemp felt", "! 10",
		"join new wool flax", "ok", "join new hemp jute", "! 7", "join more wool hemp", "! 9", "join more hemp flax", "! 9", "join more wool none", "! 9", "join more none wool", "! 6",
		"join more new hemp jute", "ok", "sources more", "flax hemp jute wool", "sources new", "flax wool", "sources wool", "wool", "sources none", "! 6")
	for name, want := range map[string]string{
		"wool": "{wool 100 crown [3 9] [] true false 0}", "new": "{new 101 crown [3 9] [wool flax] true false 0}",
		"more": "{more 104 crown [3 9] [new hemp jute] false false 0}", "yarn": "{yarn 2 crown [4 9] [] false false 0}",
	} {
		if good, e := h.Good(name); fmt.Sprint(good) != want || e != api.OK {
			t.Errorf("%v, error %d", good, e)
		}
	}
	does(t, h, "clear silk 5")
	says(t, h, "join last lace silk", "! 9", "join last silk lace", "! 9", "join last silk none", "! 9", "join last none silk", "! 6")
}

func TestP10_8JoinMany(t *testing.T) {
	h := of(t, "money a", "enter p 1 a 0 0", "enter q 2 a 0 0", "enter r 4 a 0 0", "enter s 8 a 0 0", "enter t 16 a 0 0")
	says(t, h, "join x t s", "ok", "join y x r q p", "ok", "sources y", "p q r s t")
	if good, e := h.Good("y"); good.Value != 31 || !slices.Equal(good.From, []string{"x", "r", "q", "p"}) || e != api.OK {
		t.Errorf("%v, error %d", good, e)
	}
}

func TestP10_8JoinWorth(t *testing.T) {
	h := of(t, "money a", "enter p 999999 a 0 0", "enter q 1 a 0 0", "enter r 2 a 0 0", "enter u 1 a 0 1")
	says(t, h, "join x p r", "! 2", "join x p q r", "! 2", "join x p r u", "! 10", "join x p q", "ok", "join y x r", "! 2", "join y r u", "! 10")
	if good, _ := h.Good("x"); good.Value != 1000000 {
		t.Errorf("%v", good)
	}
}

// Goods that are gone count, too.
func TestP10_8ManyGoods(t *testing.T) {
	h := of(t, "money a")
	does(t, h, numbered(58, "enter %s 20000 a 0 0")...)
	says(t, h, "join x naaa naab", "ok", "enter y 1 a 0 0", "ok", "enter z 1 a 0 0", "! 8", "enter z 0 a 0 0", "! 2", "enter z 1 b 0 0", "! 6", "enter y 1 a 0 0", "! 7",
		"join z naac naad", "! 8", "join z naac x", "! 8", "join z naaa x", "! 9", "audit", "good 61 60 58 0 0")
}

func TestP10_9Due(t *testing.T) {
	h := of(t, shop()...)
	says(t, h,
		"due none -1", "! 6", "due silk -1", "! 2", "due silk 10000", "! 2", "due silk 9999", "! 6", "due silk 100", "! 6", "due silk 99", "10", "due silk 0", "10",
		"due silk 39", "10", "due silk 40", "50", "due silk 59", "50", "due silk 60", "10",
		"due lace 5", "1", "due lace 50", "8", // 7 * 5 / 2 = 17, rounded down
		"due wool 5", "10", "due wool 50", "50",
		"due lead 5", "! 6", "due tin 5", "! 6") // no code; no charge
}

// The first money is that of the house; without a way into it there is no worth, which comes before the code and the charge.
func TestP10_9Monies(t *testing.T) {
	h := of(t, "money a", "money b", "money c", "formula f in v 0 10;out v", "enter p 3 b 0 0", "enter q 3 a 0 0", "enter r 100 c 0 0")
	says(t, h, "due p 0", "! 10", "due q 0", "! 6", "clear p 0", "! 10", "due p 10000", "! 2",
		"offer a b 1 3", "ok", "due p 0", "! 10", "offer b c 1 2", "ok", "offer c a 3 1", "ok", "due p 0", "! 6", "band 0 1 0 1 5", "rule 1", "due p 0", "! 6", "charge 5 f 0 1", "ok",
		"due p 0", "4", "due q 0", "3", "due r 0", "! 2", "due p 1", "! 6", "offer b a 2 1", "ok", "due p 0", "6")
}

// The bounds of the input and what the program computes decide; of what is known, the last counts, not what was known when the goods came.
func TestP10_9WhatIsKnown(t *testing.T) {
	h := of(t, "money a", "band 0 1 0 1 5", "formula f in v 2 10;out v", "formula g in v 0 100;set d = 0 - v;out d", "enter p 1 a 0 0", "enter q 2 a 0 0", "enter r 10 a 0 0", "enter s 11 a 0 0", "charge 5 f 0 10")
	says(t, h, "due p 0", "! 2", "clear p 0", "! 2", "due q 0", "2", "due r 0", "10", "due s 0", "! 2", "charge 5 g 3 5", "ok", "due p 3", "-1", "due s 4", "-11", "due s 5", "! 2", "due s 2", "! 2",
		"clear s 4", "-11", "clear r 0", "10", "audit", "good 12 4 2 2 -1", "band 0 1 0 1 6", "rule 2", "due q 0", "2", "due s 4", "-11")
}

func TestP10_9Clear(t *testing.T) {
	h := of(t, shop()...)
	says(t, h,
		"clear none -1", "! 6", "clear silk -1", "! 2", "clear silk 100", "! 6", "clear lead 5", "! 6", "clear tin 5", "! 6", "audit", "good 15 5 5 0 0",
		"join cloth silk lace", "ok", "clear silk -1", "! 9", "clear lace 5", "! 9", "clear cloth 50", "58", "clear cloth 50", "! 9", "clear cloth -1", "! 9",
		"clear wool 5", "10", "audit", "good 18 6 2 2 68",
		"due cloth 5", "11", "due silk 5", "10", "due cloth 50", "58") // what would be due can still be asked
	if good, e := h.Good("cloth"); fmt.Sprint(good) != "{cloth 47 florin [3 9] [silk lace] false true 58}" || e != api.OK {
		t.Errorf("%v, error %d", good, e)
	}
	does(t, h, "charge 7 half 0 100")
	if good, _ := h.Good("wool"); good.Duty != 10 || h.Audit().Duty != 68 {
		t.Errorf("%v, %v", good, h.Audit())
	}
	says(t, h, "due wool 5", "50")
}

func TestP10_10Legs(t *testing.T) {
	h := house.New()
	for _, bad := range []string{"0 0 1 2 3", "-1 0 1 2 3", "0 -1 1 2 3", "8 0 1 2 3", "0 8 1 2 3", "0 1 -1 2 3", "0 1 2 2 3", "0 1 3 2 3", "0 1 9999 10001 3", "0 1 1 2 -1", "0 1 1 2 21", "0 1125899906842624 0 1 0"} {
		says(t, h, "leg "+bad, "! 2")
	}
	says(t, h, "leg 0 7 10 20 1", "ok", "leg 7 3 20 25 2", "ok", "leg 7 3 19 21 1", "ok", "leg 3 1 9999 10000 20", "ok",
		"arrive 0 7 0", "20", "arrive 0 3 0", "25", "arrive 0 3 10", "25", "arrive 0 3 11", "! 10", "arrive 0 1 0", "10000", "arrive 3 0 0", "! 10", "arrive 5 5 12", "12",
		"arrive 8 0 0", "! 2", "arrive 0 8 0", "! 2", "arrive -1 0 0", "! 2", "arrive 0 1 -1", "! 2", "arrive 0 1 10001", "! 2", "arrive 4 4 10000", "10000")
	for range 56 {
		says(t, h, "leg 0 1 2 3 4", "ok")
	}
	says(t, h, "leg 0 1 2 3 4", "! 8", "leg 0 0 2 3 4", "! 2", "arrive 0 1 2", "3")
}

func TestP10_10Divide(t *testing.T) {
	says(t, house.New(),
		"divide 3 100 100 200 300", "100 100 100 / 3", "divide 3 300 100 200 300", "50 100 150 / 1", "divide 4 200 100 200 300", "100 250 250 / 3", "divide 0 5 9", "5 / 1", "divide 1 0 0", "0 / 1",
		"divide 2 1 1 1 1 1 1 1 1", "1 1 1 1 1 1 1 / 7", "divide 5 1 1", "! 2", "divide -1 1 1", "! 2", "divide 0 2 1", "! 2", "divide 0 -1 1", "! 2", "divide 0 0 -1", "! 2", "divide 0 100001 100000 100000", "! 2", "divide 0 1 100001", "! 2", "divide 0 1 1 1125899906842624", "! 2")
}

func TestP10_10Looks(t *testing.T) {
	says(t, house.New(), "looks 2 1", "1/3", "looks 0 0", "0/1", "looks 3 0", "1/1", "looks 3 3", "0/1", "looks 3 14", "0/1", "looks 14 1", "13/15", "looks 15 1", "! 2", "looks 1 15", "! 2", "looks -1 0", "! 2", "looks 0 -1", "! 2", "looks 1125899906842624 0", "! 2")
}

func TestP10_11If(t *testing.T) {
	h := of(t, shop()...)
	for _, line := range []string{"money pound", "offer crown florin 1 9", "band 0 1 0 1 1", "formula new in v 0 9;out v", "charge 7 half 0 100", "enter flax 1 crown 1 1", "join cloth silk lace", "clear silk 5", "leg 0 1 2 3 4"} {
		for _, prefix := range []string{"if ", "  if   ", "if if ", "if if if if "} {
			stays(t, h, prefix+line)
			if got, want := h.Exec(prefix+line), h.Copy().Exec(line); got != want || isBad(got) {
				t.Errorf("%q: %q, want %q", prefix+line, got, want)
			}
		}
	}
	says(t, h,
		"if money crown", "! 7", "if money CROWN", "? word 1", "if due silk 5", "10", "if gap", "900 0", "if join cloth silk Lace", "? word 3", "if clear none 5", "! 6", "if fly", "? line",
		"if if if if", "? line", "if offer florin crown 50 1", "! 10", "if audit", "good 15 5 5 0 0", "if rate florin crown", "5/2")
	if deep := strings.Repeat("if ", 97) + "money x"; len(deep) != 298 || h.Exec(deep) != "ok" || h.Exec("if "+deep) != "? line" {
		t.Errorf("%d: %q", len(deep), h.Exec(deep))
	}
}

func TestP10_11Book(t *testing.T) {
	h := house.New()
	var want []string
	for _, line := range append(shop(), "join cloth silk lace", "clear cloth 5", "leg 0 1 2 3 4") {
		does(t, h, " "+strings.ReplaceAll(line, " ", "   ")+"  ")
		want = append(want, line)
		for _, other := range []string{"", "   ", "fly", "money", "money X", "money crown crown", "gap", "round", "if money pound", "enter silk 0 none 0 0", "charge 7 none 0 1", "clear none 0", "leg 0 0 0 0 0", "audit", "charges 7 0"} {
			h.Exec(other)
		}
		if book := h.Book(); !slices.Equal(book, want) || h.Audit().Commands != len(want) {
			t.Fatalf("%q, %v, want %q", book, h.Audit(), want)
		}
	}
}

// The most commands that the other limits allow are fewer than a book may have.
func TestP10_11FullBook(t *testing.T) {
	h := fullHouse(t)
	if count := len(h.Book()); count != 6+40+24+12+60+60+60+60 || count > api.MaxBook {
		t.Errorf("%d commands", count)
	}
	says(t, h, "money z", "! 8", "offer naaa naab 1 2", "! 8", "band 0 1 0 1 7", "! 8", "formula x in v 0 9;out v", "! 8", "charge 7 naaa 0 1", "! 8", "enter x 1 naaa 0 0", "! 8", "clear naaa 0", "! 9", "leg 0 1 2 3 4", "! 8",
		"audit", "good 322 60 0 60 60")
	again := readAgain(t, h.Book())
	if state(again) != state(h) {
		t.Errorf("%s, want %s", state(again), state(h))
	}
}

// fullHouse returns a house of which all that is limited is at its limit.
func fullHouse(t *testing.T) *house.House {
	t.Helper()
	h := of(t, numbered(6, "money %s")...)
	for i := range 40 {
		from := i % 6
		does(t, h, fmt.Sprintf("offer %s %s 1 %d", nameOf(from), nameOf((from+1+i%5)%6), 1+i))
	}
	does(t, h, numbered(24, "band 0 1000 %d 1000 7")...)
	does(t, h, numbered(12, "formula %s in v 0 1000000;out v")...)
	does(t, h, numbered(60, "charge 7 naaa %d 100")...)
	does(t, h, numbered(60, "enter %s 1 naaa 0 0")...)
	does(t, h, numbered(60, "clear %s 0")...)
	does(t, h, numbered(60, "leg 0 1 %d 60 4")...)
	return h
}

func TestP10_11Read(t *testing.T) {
	for _, book := range [][]string{nil, {}} {
		if h := readAgain(t, book); len(h.Book()) > 0 || h.Audit() != (api.Audit{Good: true}) {
			t.Errorf("%q, %v", h.Book(), h.Audit())
		}
	}
	h := readAgain(t, shop())
	if state(h) != state(of(t, shop()...)) || !slices.Equal(h.Book(), shop()) {
		t.Errorf("%s", state(h))
	}
	// Its lines are as those that Exec takes.
	h = readAgain(t, []string{" money   crown ", "  enter silk  5 crown 1 1"})
	if want := []string{"money crown", "enter silk 5 crown 1 1"}; !slices.Equal(h.Book(), want) {
		t.Errorf("%q", h.Book())
	}
}

func TestP10_11ReadErrors(t *testing.T) {
	long := strings.Repeat(" ", 300)
	for line, want := range map[string]api.Errno{
		"": api.ErrForm, "    ": api.ErrForm, long + long: api.ErrForm, "fly": api.ErrForm, "money": api.ErrForm, "money X": api.ErrForm, "money a b": api.ErrForm, "money a" + long: api.ErrForm, "money a\n": api.ErrForm, "\tmoney a": api.ErrForm,
		"round": api.ErrForm, "gap": api.ErrForm, "dead": api.ErrForm, "audit": api.ErrForm, "rate crown crown": api.ErrForm, "rate none none": api.ErrForm, "rate crown": api.ErrForm, "code 3 9": api.ErrForm, "code -1 -1": api.ErrForm,
		"known 7 5 8": api.ErrForm, "known 7 5 999": api.ErrForm, "charges 7 0": api.ErrForm, "charges 700 0": api.ErrForm, "due silk 5": api.ErrForm, "due none 5": api.ErrForm, "sources silk": api.ErrForm, "sources none": api.ErrForm,
		"divide 0 0 0": api.ErrForm, "divide 9 9 9": api.ErrForm, "looks 0 0": api.ErrForm, "looks 99 0": api.ErrForm, "arrive 0 0 0": api.ErrForm, "arrive 9 9 9": api.ErrForm,
		"if": api.ErrForm, "if money pound": api.ErrForm, "if money crown": api.ErrForm, "if gap": api.ErrForm, "if if money pound": api.ErrForm,
		"money crown": api.ErrExists, "offer crown none 1 1": api.ErrNone, "offer crown crown 1 1": api.ErrArg, "offer crown florin 9 1": api.ErrPlan, "band 0 0 0 0 0": api.ErrArg,
		"formula ten x": api.ErrExists, "formula x x": api.ErrForm, "formula x in v 0 9": api.ErrArg, "formula x in v 0 9;set d = 1 / v;out d": api.ErrPlan, "formula x in v 0 9;repeat 50;repeat 50;repeat 50;set d = 1;end;end;end;out v": api.ErrFuel,
		"charge 7 none 0 1": api.ErrNone, "charge 7 ten 1 1": api.ErrArg, "enter silk 1 crown 0 0": api.ErrExists, "join cloth silk none": api.ErrNone, "join cloth silk wool": api.ErrPlan, "clear none 0": api.ErrNone, "clear silk 10000": api.ErrArg, "leg 0 0 1 2 3": api.ErrArg,
	} {
		for at := range 3 {
			book := append(shop(), "leg 0 1 2 3 4", "leg 0 1 2 3 4")
			n := len(book) - at
			book = slices.Insert(book, n, line)
			if at > 0 {
				book = append(book, "fly", "money crown") // the first one decides
			}
			if h, got, e := house.Read(book); h != nil || got != n+1 || e != want {
				t.Errorf("Read with %q: %v, line %d, error %d; want line %d, error %d", line, h != nil, got, e, n+1, want)
			}
		}
	}
	if h, n, e := house.Read([]string{"clear silk 0"}); h != nil || n != 1 || e != api.ErrNone {
		t.Errorf("%v, line %d, error %d", h != nil, n, e)
	}
	book := append(shop(), "join cloth silk lace")
	if h, n, e := house.Read(append(book, "clear silk 5")); h != nil || n != 17 || e != api.ErrState {
		t.Errorf("%v, line %d, error %d", h != nil, n, e)
	}
}

func TestP10_11Run(t *testing.T) {
	for text, want := range map[string]string{
		"":                                   "",
		"\n":                                 "",
		"\n\n   \n":                          "",
		"round":                              "none 0\n",
		"round\n":                            "none 0\n",
		"round\n\n":                          "none 0\n",
		"round\n   ":                         "none 0\n",
		"\n\nround\n  \nmoney a\nmoney a\nx": "none 0\nok\n! 7\n? line\n",
		"round\r\nround":                     "? line\nnone 0\n",
		"money a\n" + strings.Repeat(" ", 400) + "\nrate a a\nif\n": "ok\n1/1\n? line\n",
		"round\n" + strings.Repeat("a", 400):                        "none 0\n? line\n",
	} {
		if got := house.New().Run(text); got != want {
			t.Errorf("%q: %q, want %q", text, got, want)
		}
	}
	h := of(t, "money a")
	if got := h.Run("money b\nif money c\noffer a b 1 2\nrate a b\nrate b c\n"); got != "ok\nok\nok\n1/2\n! 6\n" || len(h.Book()) != 3 {
		t.Errorf("%q, %q", got, h.Book())
	}
}

func TestP10_11Audit(t *testing.T) {
	h := of(t, shop()...)
	for line, want := range map[string]api.Audit{
		"join cloth silk lace": {Commands: 16, Goods: 6, Held: 4, Good: true},
		"clear silk 45":        {Commands: 16, Goods: 5, Held: 4, Cleared: 1, Duty: 50, Good: true},
		"leg 0 1 2 3 4":        {Commands: 16, Goods: 5, Held: 5, Good: true},
		"money crown":          {Commands: 15, Goods: 5, Held: 5, Good: true},
	} {
		twin := h.Copy()
		twin.Exec(line)
		if got := twin.Audit(); got != want {
			t.Errorf("%q: %v, want %v", line, got, want)
		}
	}
	does(t, h, "clear silk 45", "clear wool 0", "enter flax 1 florin 3 9", "join new flax lace", "clear new 0")
	if got, want := h.Audit(), (api.Audit{Commands: 20, Goods: 7, Held: 2, Cleared: 3, Duty: 62, Good: true}); got != want {
		t.Errorf("%v, want %v", got, want)
	}
	says(t, h, "audit", "good 20 7 2 3 62")
}

// What is done to a copy does not show in the house, nor the other way round.
func TestP10_11Copy(t *testing.T) {
	more := []string{"money pound", "offer crown florin 1 9", "band 0 1000 0 1000 1", "formula new in v 0 9;out v", "charge 7 half 0 100", "enter flax 1 crown 1 1", "join cloth silk lace", "clear wool 5", "clear cloth 5", "leg 0 1 2 3 4"}
	for count := range len(more) + 1 {
		h := of(t, append(shop(), more[:count]...)...)
		twin := h.Copy()
		before := state(h)
		if state(twin) != before {
			t.Fatalf("%s, want %s", state(twin), before)
		}
		for _, pair := range [][2]*house.House{{h, twin}, {twin, h}} {
			third := pair[0].Copy()
			does(t, third, more[count:]...)
			does(t, third, "enter zinc 5 crown 3 9")
			if state(pair[0]) != before || state(pair[1]) != before || state(third) == before {
				t.Fatalf("after %d: %s, %s, want %s", count, state(pair[0]), state(pair[1]), before)
			}
		}
		does(t, twin, more[count:]...)
		does(t, twin, "enter zinc 5 crown 3 9")
		if state(h) != before {
			t.Fatalf("after %d: %s, want %s", count, state(h), before)
		}
		does(t, h, append(more[count:], "enter zinc 5 crown 3 9")...)
		if state(h) != state(twin) {
			t.Fatalf("after %d: %s, want %s", count, state(h), state(twin))
		}
	}
}

// Two houses that come from one each go on in a way of their own, whatever room their lists have.
func TestP10_11CopiesApart(t *testing.T) {
	for _, c := range []struct {
		most                                               int
		format, one, other, question, oneReply, otherReply string
	}{
		{3, "money %s", "money x", "money y", "rate x x", "1/1", "! 6"},
		{9, "offer crown florin 1 4%d", "offer crown florin 7 20", "offer crown florin 2 5", "rate crown florin", "7/20", "2/5"},
		{9, "band 99%d 1000 0 1 1", "band 950 980 0 1 2", "band 950 980 0 1 3", "code 960 0", "2", "3"},
		{9, "formula %s in v 0 9;out v", "formula x in v 0 9;out v", "formula y in v 0 9;out v", "if charge 1 x 0 1", "ok", "! 6"},
		{9, "charge 1%d ten 0 1", "charge 9 ten 3 4", "charge 9 half 5 6", "if enter zinc 1 crown 0 0", "ok", "ok"},
		{9, "enter %s 1 crown 0 0", "enter x 1 crown 0 0", "enter y 1 crown 0 0", "sources x", "x", "! 6"},
		{9, "enter %s 1 crown 0 0", "clear silk 5", "join x silk lace", "sources x", "! 6", "lace silk"},
		{9, "leg 0 1 %d 60 4", "leg 0 1 30 32 4", "leg 0 1 30 34 4", "arrive 0 1 30", "32", "34"},
	} {
		for count := range c.most + 1 {
			h := of(t, append(shop(), numbered(count, c.format)...)...)
			twin := h.Copy()
			before := state(h)
			does(t, h, c.one)
			does(t, twin, c.other)
			says(t, h, c.question, c.oneReply)
			says(t, twin, c.question, c.otherReply)
			for _, pair := range [][2]string{{h.Book()[len(h.Book())-1], c.one}, {twin.Book()[len(twin.Book())-1], c.other}} {
				if pair[0] != pair[1] {
					t.Errorf("the book ends with %q, want %q", pair[0], pair[1])
				}
			}
			if got, want := state(h), state(readAgain(t, h.Book())); got != want || got == before {
				t.Errorf("%q: %s, want %s", c.one, got, want)
			}
			if got, want := state(twin), state(readAgain(t, twin.Book())); got != want || got == before {
				t.Errorf("%q: %s, want %s", c.other, got, want)
			}
		}
	}
}
