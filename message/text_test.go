package message_test

import (
	"math/rand/v2"
	"slices"
	"strings"
	"testing"

	"cocket/api"
	"cocket/message"
)

func TestP7_1Texts(t *testing.T) {
	for _, c := range []struct {
		text string
		want []api.Segment
	}{
		{"", nil},
		{"\n\n\n", nil},
		{"LIN'", []api.Segment{{Tag: "LIN"}}},
		{"AB'", []api.Segment{{Tag: "AB"}}},
		{"LIN+'", []api.Segment{{Tag: "LIN", Elements: [][]string{{""}}}}},
		{"LIN++'", []api.Segment{{Tag: "LIN", Elements: [][]string{{""}, {""}}}}},
		{"LIN+:'", []api.Segment{{Tag: "LIN", Elements: [][]string{{"", ""}}}}},
		{"LIN+a::b+'", []api.Segment{{Tag: "LIN", Elements: [][]string{{"a", "", "b"}, {""}}}}},
		{"UNH+1+CUSDEC:D:96B'BGM+?+5'", []api.Segment{{Tag: "UNH", Elements: [][]string{{"1"}, {"CUSDEC", "D", "96B"}}}, {Tag: "BGM", Elements: [][]string{{"+5"}}}}},
		{"LIN+?+?:?'??'", []api.Segment{{Tag: "LIN", Elements: [][]string{{"+:'?"}}}}},
		{"LIN+??:a?'+?:'", []api.Segment{{Tag: "LIN", Elements: [][]string{{"?", "a'"}, {":"}}}}},
		{"LIN+ ~!\"#$%&()*'", []api.Segment{{Tag: "LIN", Elements: [][]string{{" ~!\"#$%&()*"}}}}},
		{"LIN+LIN:lin+12,5'", []api.Segment{{Tag: "LIN", Elements: [][]string{{"LIN", "lin"}, {"12,5"}}}}},
	} {
		m, n, e := message.Parse(c.text)
		if !isSameMessage(m, c.want) || n != 0 || e != api.OK {
			t.Errorf("Parse of %q: %q, %d, error %d", c.text, m, n, e)
		}
		if text, e := message.Print(c.want); text != strings.ReplaceAll(c.text, "\n", "") || e != api.OK {
			t.Errorf("Print of %q: %q, error %d; want %q", c.want, text, e, c.text)
		}
	}
}

func TestP7_1LineFeeds(t *testing.T) {
	want := []api.Segment{{Tag: "LIN", Elements: [][]string{{"1"}}}, {Tag: "QTY"}}
	for _, text := range []string{"LIN+1'QTY'", "\nLIN+1'QTY'", "LIN+1'\nQTY'", "LIN+1'QTY'\n", "\n\n\nLIN+1'\n\nQTY'\n\n\n\n"} {
		if m, n, e := message.Parse(text); !isSameMessage(m, want) || n != 0 || e != api.OK {
			t.Errorf("Parse of %q: %q, %d, error %d", text, m, n, e)
		}
	}
	// Nowhere else, and no other blanks.
	for text, at := range map[string]int{
		"L\nIN'": 0, "LIN\n'": 0, "LIN\n+1'": 0, "LIN+\n1'": 0, "LIN+1\n'": 0, "LIN+1\n:1'": 0, "LIN+1:\n1'": 0, "LIN+?\n+'": 0, "LIN'QTY\n'": 1, "LIN'QTY+a\n'": 1,
		" LIN'": 0, "LIN' ": 1, "LIN' QTY'": 1, "LIN'\r\nQTY'": 1, "\rLIN'": 0, "LIN'\t": 1, "LIN'\n\n ": 1, "LIN'\nQTY'\n\r": 2, "LIN+a\r'": 0,
	} {
		if m, n, e := message.Parse(text); len(m) > 0 || n != at || e != api.ErrForm {
			t.Errorf("Parse of %q: %q, %d, error %d; want ErrForm of %d", text, m, n, e, at)
		}
	}
}

func TestP7_1Forms(t *testing.T) {
	for _, bad := range []string{
		"L'", "LINE'", "ABCDEF+1'", "'", "+1'", ":1'", "lin'", "Lin'", "LIn'", "L1N'", "1AB'", "LI '", "?LIN'", "L?IN'", "ÄB'", "AB\x00'", "@AB'", "[AB'",
		"LIN", "LIN+", "LIN+1", "LIN+1:", "LIN+1:2", "LIN+?'", "LIN+1?'", "LIN+??", "L", "?", "+", ":", "LIN+a?", "LIN+?",
		"LIN+?a'", "LIN+a?b'", "LIN+? '", "LIN+?1'", "LIN+a:b?c'", "LIN+?\n'", "LIN+???a'",
		"LIN:a'", "LIN:a+b'", "LIN?+a'", "LINa'", "LIN a'", "LIN\x1f'", "LIN+\x1f'", "LIN+\x7f'", "LIN+\x80'", "LIN+\xff'", "LIN+a\x00'", "LIN+ü'", "LIN+\t'", "LIN+a:\x7f'", "LIN+a+\x1f'",
	} {
		for before := range 3 {
			text := strings.Repeat("QTY+1:?''\n", before) + bad
			if m, n, e := message.Parse(text); len(m) > 0 || n != before || e != api.ErrForm {
				t.Errorf("Parse of %q: %q, %d, error %d; want ErrForm of %d", text, m, n, e, before)
			}
			// Nothing behind it changes that, unless it was only without an end.
			if strings.HasSuffix(bad, "'") && !strings.HasSuffix(bad, "?'") {
				text += strings.Repeat("LIN+1:2:3:4:5:6'", 3) + "LIN"
				if m, n, e := message.Parse(text); len(m) > 0 || n != before || e != api.ErrForm {
					t.Errorf("Parse of %q: %q, %d, error %d; want ErrForm of %d", text, m, n, e, before)
				}
			}
		}
	}
}

func TestP7_1EveryByte(t *testing.T) {
	for b := range 256 {
		letter := string([]byte{byte(b)})
		want, at := api.OK, 0
		switch {
		case b < 32 || b > 126, letter == "?":
			want = api.ErrForm
		case letter == "'":
			want, at = api.ErrForm, 1 // the segment ends, and "b'" is none
		}
		if _, n, e := message.Parse("LIN+a" + letter + "b'"); e != want || n != at {
			t.Errorf("byte %d in a part: %d, error %d; want %d, error %d", b, n, e, at, want)
		}
		want = api.ErrForm
		if strings.Contains("+:'?", letter) {
			want = api.OK
		}
		if _, n, e := message.Parse("LIN+a?" + letter + "b'"); e != want || n != 0 {
			t.Errorf("byte %d behind a question mark: %d, error %d; want error %d", b, n, e, want)
		}
		want = api.ErrForm
		if b >= 'A' && b <= 'Z' {
			want = api.OK
		}
		if _, n, e := message.Parse("A" + letter + "C+1'"); e != want && letter != "'" || n != 0 {
			t.Errorf("byte %d in a tag: %d, error %d; want error %d", b, n, e, want)
		}
		want = api.OK
		if b < 32 || b > 126 {
			want = api.ErrArg
		}
		if text, e := message.Print([]api.Segment{{Tag: "LIN", Elements: [][]string{{"a", letter + "b"}}}}); e != want || e != api.OK && text != "" {
			t.Errorf("Print of the byte %d: %q, error %d; want error %d", b, text, e, want)
		}
	}
}

func TestP7_1Limits(t *testing.T) {
	x := strings.Repeat("x", 20)
	signs := strings.Repeat("?+", 20) // 20 bytes of a part
	for _, c := range []struct {
		text string
		n    int
		e    api.Errno
	}{
		{"LIN+1+2+3+4+5+6+7+8'", 0, api.OK},
		{"LIN+1+2+3+4+5+6+7+8+9'", 0, api.ErrLimit},
		{"LIN++++++++'", 0, api.OK},
		{"LIN+++++++++'", 0, api.ErrLimit},
		{"LIN+1:2:3:4:5'", 0, api.OK},
		{"LIN+1:2:3:4:5:6'", 0, api.ErrLimit},
		{"LIN+1+1:2:3:4:5:6+1'", 0, api.ErrLimit},
		{"LIN+::::'", 0, api.OK},
		{"LIN+:::::'", 0, api.ErrLimit},
		{"LIN+" + x + "'", 0, api.OK},
		{"LIN+" + x + "x'", 0, api.ErrLimit},
		{"LIN+a+b:" + x + "x'", 0, api.ErrLimit},
		{"LIN+" + signs + "'", 0, api.OK},
		{"LIN+" + signs + "??'", 0, api.ErrLimit},
		{"LIN+" + signs + "x'", 0, api.ErrLimit},
		{strings.Repeat("LIN'", 60), 0, api.OK},
		{strings.Repeat("LIN'\n", 60) + "\n\n", 0, api.OK},
		{strings.Repeat("LIN'", 61), 60, api.ErrLimit},
		{strings.Repeat("LIN'", 1000), 60, api.ErrLimit},
		{strings.Repeat("LIN'", 60) + "LIN+1:2:3:4:5:6'", 60, api.ErrLimit},
		// Of one segment ErrForm comes first, wherever it is.
		{"LIN+1:2:3:4:5:6", 0, api.ErrForm},
		{"LIN+1:2:3:4:5:6+?a'", 0, api.ErrForm},
		{"LIN+1+2+3+4+5+6+7+8+9+\t'", 0, api.ErrForm},
		{"LIN+" + x + "x?", 0, api.ErrForm},
		{"LINE+1:2:3:4:5:6'", 0, api.ErrForm},
		{strings.Repeat("LIN'", 60) + "LIN", 60, api.ErrForm},
		{strings.Repeat("LIN'", 60) + "L'", 60, api.ErrForm},
		{strings.Repeat("LIN'", 60) + " ", 60, api.ErrForm},
		{strings.Repeat("LIN'", 60) + "LIN+1:2:3:4:5:6?x'", 60, api.ErrForm},
		// Of two segments the first one.
		{"LIN'LIN+1:2:3:4:5:6'LIN", 1, api.ErrLimit},
		{"LIN'LIN'LIN+" + x + "x'X'", 2, api.ErrLimit},
		{strings.Repeat("LIN'", 61) + "X", 60, api.ErrLimit},
		{"LIN'X'" + strings.Repeat("LIN'", 100), 1, api.ErrForm},
		{strings.Repeat("LIN'", 30) + "LIN+:::::'" + strings.Repeat("LIN'", 100), 30, api.ErrLimit},
	} {
		m, n, e := message.Parse(c.text)
		if n != c.n || e != c.e || e != api.OK && len(m) > 0 {
			t.Errorf("Parse of %q: %d segments, %d, error %d; want %d, error %d", c.text, len(m), n, e, c.n, c.e)
		}
	}
}

func TestP7_1Letter(t *testing.T) {
	if m, n, e := message.Parse("LIN'" + strings.Repeat("\n", 20000-4)); len(m) != 1 || n != 0 || e != api.OK {
		t.Errorf("20000 bytes: %d segments, %d, error %d", len(m), n, e)
	}
	full := strings.Repeat("LIN+"+strings.Repeat("a", 20)+"'", 60)
	for _, text := range []string{
		"LIN'" + strings.Repeat("\n", 20000-3), strings.Repeat("\n", 20001), "X" + strings.Repeat("\n", 20000), full + strings.Repeat("\n", 20001-len(full)),
		"LIN'X'" + strings.Repeat("LIN'", 5000), strings.Repeat("a", 20001), strings.Repeat("LIN'", 1<<20), strings.Repeat("?", 1<<20),
	} {
		if m, n, e := message.Parse(text); len(m) > 0 || n != 0 || e != api.ErrLimit {
			t.Errorf("%d bytes: %d segments, %d, error %d; want ErrLimit", len(text), len(m), n, e)
		}
	}
	for _, text := range []string{strings.Repeat("a", 20000), "X" + strings.Repeat("\n", 19999), strings.Repeat("?", 20000), "LIN+" + strings.Repeat("?", 19996)} {
		if m, n, e := message.Parse(text); len(m) > 0 || n != 0 || e != api.ErrForm {
			t.Errorf("%d bytes: %d segments, %d, error %d; want ErrForm", len(text), len(m), n, e)
		}
	}
	for text, want := range map[string]api.Errno{"LIN+" + strings.Repeat("?", 19994) + "'": api.ErrLimit, "LIN+" + strings.Repeat("?", 19995) + "'": api.ErrForm, "LIN" + strings.Repeat("+", 19996) + "'": api.ErrLimit, "LIN+" + strings.Repeat(":", 19995) + "'": api.ErrLimit, strings.Repeat("LIN'", 5000): api.ErrLimit} {
		at := 0
		if !strings.Contains(text, "+") {
			at = 60
		}
		if m, n, e := message.Parse(text); len(m) > 0 || n != at || e != want {
			t.Errorf("%d bytes %.10s: %d segments, %d, error %d; want error %d", len(text), text, len(m), n, e, want)
		}
	}
}

func TestP7_1PrintErrors(t *testing.T) {
	x := strings.Repeat("x", 20)
	line := api.Segment{Tag: "LIN", Elements: [][]string{{"1"}}}
	for _, s := range []api.Segment{
		{}, {Tag: "L"}, {Tag: "LINE"}, {Tag: "lin"}, {Tag: "L1"}, {Tag: "LI "}, {Tag: "LI'"}, {Tag: "ÄB"}, {Tag: "Ä"}, {Tag: strings.Repeat("A", 1<<20)}, {Tag: "", Elements: [][]string{{"1"}}},
		{Tag: "LIN", Elements: [][]string{nil}}, {Tag: "LIN", Elements: [][]string{{}}}, {Tag: "LIN", Elements: [][]string{{"1"}, {}}}, {Tag: "LIN", Elements: make([][]string, 8)},
		{Tag: "LIN", Elements: [][]string{{"1", "2", "3", "4", "5", "6"}}}, {Tag: "LIN", Elements: slices.Repeat([][]string{{"1"}}, 9)}, {Tag: "LIN", Elements: slices.Repeat([][]string{{"1"}}, 100000)},
		{Tag: "LIN", Elements: [][]string{make([]string, 100000)}},
		{Tag: "LIN", Elements: [][]string{{x + "x"}}}, {Tag: "LIN", Elements: [][]string{{"1", x + "?"}}}, {Tag: "LIN", Elements: [][]string{{strings.Repeat("x", 1<<20)}}},
		{Tag: "LIN", Elements: [][]string{{"\n"}}}, {Tag: "LIN", Elements: [][]string{{"a\x7f"}}}, {Tag: "LIN", Elements: [][]string{{"1"}, {"2", "\x1f"}}}, {Tag: "LIN", Elements: [][]string{{"ü"}}}, {Tag: "LIN", Elements: [][]string{{"\xff"}}},
	} {
		for _, m := range [][]api.Segment{{s}, {line, s}, {s, line}, {line, line, s, line}} {
			if text, e := message.Print(m); text != "" || e != api.ErrArg {
				t.Errorf("Print of %.300q: %q, error %d; want ErrArg", m, text, e)
			}
		}
	}
	for _, count := range []int{61, 100000} {
		if text, e := message.Print(slices.Repeat([]api.Segment{line}, count)); text != "" || e != api.ErrArg {
			t.Errorf("Print of %d segments: %q, error %d; want ErrArg", count, text, e)
		}
	}
	if text, e := message.Print(slices.Repeat([]api.Segment{line}, 60)); text != strings.Repeat("LIN+1'", 60) || e != api.OK {
		t.Errorf("Print of 60 segments: %q, error %d", text, e)
	}
	for _, none := range [][]api.Segment{nil, {}} {
		if text, e := message.Print(none); text != "" || e != api.OK {
			t.Errorf("Print of nothing: %q, error %d", text, e)
		}
	}
}

// The greatest message has a text that is too long for Parse; Print writes it all the same.
func TestP7_1PrintGreatest(t *testing.T) {
	parts := slices.Repeat([]string{strings.Repeat("?", 20)}, 5)
	m := slices.Repeat([]api.Segment{{Tag: "LIN", Elements: slices.Repeat([][]string{parts}, 8)}}, 60)
	text, e := message.Print(m)
	if text != slowPrint(m) || e != api.OK {
		t.Errorf("%d bytes, error %d", len(text), e)
	}
	m = m[:12] // 12 segments of 1644 bytes
	text, e = message.Print(m)
	if len(text) != 12*1644 || e != api.OK {
		t.Errorf("%d bytes, error %d", len(text), e)
	}
	if back, n, e := message.Parse(text); !isSameMessage(back, m) || n != 0 || e != api.OK {
		t.Errorf("%d segments, %d, error %d", len(back), n, e)
	}
}

// somewhatWrong changes a few bytes of a text.
func somewhatWrong(r *rand.Rand, text string) string {
	letters := "AB+:'?\nab\x7f "
	for range r.IntN(3) {
		at := r.IntN(len(text) + 1)
		switch r.IntN(3) {
		case 0:
			text = text[:at] + randomText(r, letters, 2) + text[at:]
		case 1:
			text = text[:at] + text[min(len(text), at+1):]
		default:
			text = text[:at] + randomText(r, letters, 1) + text[min(len(text), at+1):]
		}
	}
	return text
}

func TestP7_1ParseSlowly(t *testing.T) {
	r := rand.New(rand.NewPCG(7, 1))
	for i := range 6000 {
		m := randomMessage(r, 4, 3, 3, 5)
		if i%3 == 0 {
			m = randomMessage(r, 2, 9, 6, 21)
		}
		text := somewhatWrong(r, slowPrint(m))
		if i%5 == 0 {
			text = randomText(r, "AB+:'?\n", 12)
		}
		want, wantN, wantE := slowParse(text)
		got, n, e := message.Parse(text)
		if !isSameMessage(got, want) || n != wantN || e != wantE {
			t.Fatalf("Parse of %q: %q, %d, error %d; want %q, %d, error %d", text, got, n, e, want, wantN, wantE)
		}
	}
}

func TestP7_1PrintSlowly(t *testing.T) {
	r := rand.New(rand.NewPCG(7, 2))
	for range 3000 {
		m := randomMessage(r, 62, 2, 2, 4)
		if r.IntN(2) == 0 {
			m = randomMessage(r, 2, 9, 6, 21)
		}
		want, wantE := "", api.ErrArg
		if len(m) <= 60 && !slices.ContainsFunc(m, func(s api.Segment) bool { return !isSlowSegment(s) }) {
			want, wantE = slowPrint(m), api.OK
		}
		if text, e := message.Print(m); text != want || e != wantE {
			t.Fatalf("Print of %q: %q, error %d; want %q, error %d", m, text, e, want, wantE)
		}
	}
}

func TestP7_7ThereAndBack(t *testing.T) {
	r := rand.New(rand.NewPCG(7, 7))
	for range 3000 {
		m := randomMessage(r, 60, 8, 5, 20)
		if r.IntN(2) == 0 {
			m = randomMessage(r, 5, 3, 3, 4)
		}
		text, e := message.Print(m)
		if e != api.OK || strings.Contains(text, "\n") {
			t.Fatalf("Print of %q: %q, error %d", m, text, e)
		}
		if len(text) > 20000 {
			continue
		}
		back, n, e := message.Parse(text)
		if !isSameMessage(back, m) || n != 0 || e != api.OK {
			t.Fatalf("Parse of %q: %q, %d, error %d; want %q", text, back, n, e, m)
		}
	}
}

func TestP7_7BackAndThere(t *testing.T) {
	r := rand.New(rand.NewPCG(7, 8))
	right := 0
	for range 20000 {
		text := somewhatWrong(r, slowPrint(randomMessage(r, 3, 2, 2, 3)))
		m, n, e := message.Parse(text)
		if e != api.OK {
			continue
		}
		right++
		back, e := message.Print(m)
		if back != strings.ReplaceAll(text, "\n", "") || n != 0 || e != api.OK {
			t.Fatalf("Print of what Parse makes of %q: %q, error %d", text, back, e)
		}
	}
	if right < 5000 {
		t.Errorf("only %d texts were right", right)
	}
}
