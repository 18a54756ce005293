package tests

import (
	"math/rand"
	"strings"
	"testing"

	"loop.example/theorymodules/impl"
)

func TestP53TextsOfTermsAreRead(t *testing.T) {
	for i, c := range settings() {
		texts := map[string][]int{}
		for _, row := range c.pool(int64(i+700), 200) {
			text := impl.TermText(c.s, c.vars, row)
			whole, _ := treeByHand(c.s, c.vars, row)
			if text != whole.text() {
				t.Fatal(c, row, text)
			}
			back, ok := impl.ReadTerm(c.s, c.vars, text)
			wantRow(t, back, ok, row, true, c, text)
			if other, twice := texts[text]; twice {
				t.Fatal("one text of two", c, row, other)
			}
			texts[text] = row
			if text := impl.TermText(c.s, c.vars, append(row[:len(row):len(row)], 100)); text != "" {
				t.Fatal(c, row, text)
			}
		}
	}
}

func TestTextsOfTerms(t *testing.T) {
	one, two := setting{sigOf("1:000,0,00,0,0,00"), []int{0, 0, 0, 0}}, setting{sigOf("2:010,01,10,0,1"), []int{1, 0}}
	for _, e := range []struct {
		c    setting
		row  []int
		text string
	}{
		{one, []int{100}, "x0"}, {one, []int{103}, "x3"}, {one, []int{1}, "f1"}, {one, []int{4}, "f4"}, {one, []int{5, 101}, "f5(x1)"}, {one, []int{2, 2, 1}, "f2(f2(f1))"},
		{one, []int{0, 100, 100}, "f0(x0,x0)"}, {one, []int{0, 0, 100, 101, 2, 102}, "f0(f0(x0,x1),f2(x2))"}, {one, []int{0, 100, 0, 1, 101}, "f0(x0,f0(f1,x1))"},
		{one, chain(30, 3), strings.Repeat("f2(", 29) + "f3" + strings.Repeat(")", 29)},
		{two, []int{0, 101, 100}, "f0(x1,x0)"}, {two, []int{1, 0, 3, 4}, "f1(f0(f3,f4))"},
	} {
		if text := impl.TermText(e.c.s, e.c.vars, e.row); text != e.text {
			t.Fatal(e, text)
		}
		row, ok := impl.ReadTerm(e.c.s, e.c.vars, e.text)
		wantRow(t, row, ok, e.row, true, e)
	}
	for _, row := range [][]int{nil, {}, {104}, {6}, {-1}, {0}, {0, 1}, {1, 1}, {0, 1, 1, 1}, {99}, chain(31, 3)} {
		if text := impl.TermText(one.s, one.vars, row); text != "" {
			t.Fatal(row, text)
		}
	}
	if text := impl.TermText(two.s, two.vars, []int{0, 100, 101}); text != "" {
		t.Fatal(text)
	}
	for _, bad := range badVars(1) {
		row, ok := impl.ReadTerm(one.s, bad, "f1")
		wantRow(t, row, ok, nil, false, bad)
		if text := impl.TermText(one.s, bad, []int{1}); text != "" {
			t.Fatal(bad, text)
		}
	}
	for _, bad := range invalidSigs() {
		for _, given := range []string{"", "f0", "x0", "f"} {
			row, ok := impl.ReadTerm(bad, nil, given)
			wantRow(t, row, ok, nil, false, bad, given)
		}
		if text := impl.TermText(bad, nil, []int{0}); text != "" {
			t.Fatal(bad, text)
		}
	}
}

// checkReadTerm compares what is read with what the document tells.
func checkReadTerm(t *testing.T, c setting, text string) {
	t.Helper()
	row, ok := impl.ReadTerm(c.s, c.vars, text)
	want, wantOk := readByHand(c.s, c.vars, text)
	wantRow(t, row, ok, want, wantOk, c, text)
	if !ok {
		return
	}
	if again := impl.TermText(c.s, c.vars, row); again != text {
		t.Fatalf("%q is written as %q", text, again)
	}
	behind, ok := impl.ReadTerm(c.s, c.vars, text+",")
	wantRow(t, behind, ok, nil, false, "a comma behind", text)
}

func TestP54ReadTextsOfTermsAreCanonical(t *testing.T) {
	c := setting{sigOf("1:000,0,00"), []int{0, 0}}
	check := func(text string) { checkReadTerm(t, c, text) }
	textsOver("fx012(), ", 5, "", check)
	textsOver("fx02(,)", 8, "f2(", check)
	textsOver("x01,)", 10, "f0(", check)
	textsOver("fx1,)", 11, "f0(f1,", check)
	two := setting{sigOf("2:010,01,10,0,1"), []int{1, 0}}
	textsOver("x01,)", 10, "f0(", func(text string) { checkReadTerm(t, two, text) })
	textsOver("fx034)", 8, "f1(", func(text string) { checkReadTerm(t, two, text) })
	for first := range 256 {
		for second := range 256 {
			text := string([]byte{byte(first), byte(second)})
			for _, whole := range []string{text, text + "x0)", "f" + text, "x" + text, "f0" + text + "0,x1)", "f0(x0" + text + "x1)", "f0(x0," + text + ")", "f2(x0" + text, "f1" + text} {
				check(whole)
			}
		}
	}
}

func TestChangedTextsOfTermsAreReadAsTheyAre(t *testing.T) {
	r := rand.New(rand.NewSource(6))
	const bytes = "fxfx000123456789((,,)) \n+-\x00\x94\xff"
	for i, c := range settings() {
		for _, row := range c.pool(int64(i+800), 60) {
			text := impl.TermText(c.s, c.vars, row)
			checkReadTerm(t, c, text)
			for at := range len(text) {
				other := string(bytes[r.Intn(len(bytes))])
				for _, changed := range []string{text[:at], text[at:], text[:at] + text[at+1:], text[:at] + other + text[at:], text[:at] + other + text[at+1:], text[:at] + "0" + text[at:]} {
					checkReadTerm(t, c, changed)
				}
				checkReadTerm(t, c, text[:at]+text[r.Intn(len(text)):])
			}
			for _, changed := range []string{" " + text, text + " ", "(" + text + ")", text + ")", text + "()", text + text, text + "x0", text + "," + text, strings.ToUpper(text)} {
				row, ok := impl.ReadTerm(c.s, c.vars, changed)
				wantRow(t, row, ok, nil, false, c, changed)
			}
		}
	}
}

func TestTextsOfNoTerm(t *testing.T) {
	c := setting{sigOf("1:000,0,00"), []int{0, 0}}
	for _, text := range []string{
		"", " ", "x", "f", "0", "1", "100", "x 0", " x0", "x0 ", "f1 ", "f2 (x0)", "f2( x0)", "f2(x0 )", "f0(x0, x1)", "f0(x0 ,x1)", "x0\n", "x0\x00",
		"x00", "x01", "f01", "f00(x0,x1)", "f02(x0)", "f0(x00,x1)", "f2(f01)", "x+0", "x-0", "x0x", "xx0", "ff1", "fx0", "xf1",
		"f0", "f2", "f0x0,x1)", "f0(x0,x1", "f0x0,x1", "f0 x0 x1", "f2x0", "f2(x0", "f2x0)", "f2((x0)", "f2((x0))", "(x0)", "f2[x0]", "f2{x0}", "f2(x0))", "f2)x0(",
		"f1()", "f1(x0)", "x0()", "x0(x1)", "f2(f1())", "f0()", "f2()", "f0(,)", "f0(x0,)", "f0(,x0)",
		"f2(x0,)", "f2(,x0)", "f0(x0,x1,)", "f0(,x0,x1)", "f0(x0,,x1)", "f0(x0;x1)", "f0(x0x1)", "x0,", "f1,", "f0(x0,x1),", ",x0", "x0,x1",
		"x0x0", "f1f1", "x0)", "f1)", "f0(x0,x1)x0", "f0(x0,x1)()", "f2(x0)(x0)",
		"x2", "x3", "x9", "x10", "x100", "f0(x0,x2)", "f3", "f6", "f9", "f10", "f3(x0)", "f0(x0,f3)", "y0", "g1", "X0", "F1", "x/", "x:", "f/", "f:", "f\x94", "f\x95", "xa", "x\xff", "x\u0660",
		"f0(x0)", "f2(x0,x1)", "f0(x0,x1,x0)", "f0(f2(x0),f0(x1))",
		strings.Repeat("f2(", 30) + "f1" + strings.Repeat(")", 30),
		strings.Repeat("f2(", 30) + "x0" + strings.Repeat(")", 30),
		strings.Repeat("f0(x0,", 15) + "x0" + strings.Repeat(")", 15),
		strings.Repeat("f2(", 1000000) + "f1" + strings.Repeat(")", 1000000), strings.Repeat("f2(", 1000000), strings.Repeat("x", 1000000), strings.Repeat("(", 1000000), strings.Repeat("x0", 1000000), "x" + strings.Repeat("0", 1000000),
	} {
		if row, ok := impl.ReadTerm(c.s, c.vars, text); ok || row != nil {
			t.Fatalf("%.80q: %v", text, row)
		}
	}
	two := setting{sigOf("2:010,01,10,0,1"), []int{1, 0}}
	for _, text := range []string{"f0(x0,x1)", "f0(x0,x0)", "f0(x1,x1)", "f0(f4,f3)", "f1(x0)", "f2(x1)", "f1(f4)", "f2(f3)", "f2(f2(x0))", "f0(f3,f2(f4))", "x2", "f5"} {
		row, ok := impl.ReadTerm(two.s, two.vars, text)
		wantRow(t, row, ok, nil, false, text)
	}
	row, ok := impl.ReadTerm(c.s, nil, "x0")
	wantRow(t, row, ok, nil, false, "no letters")
	row, ok = impl.ReadTerm(c.s, c.vars, strings.Repeat("f2(", 29)+"x1"+strings.Repeat(")", 29))
	wantRow(t, row, ok, chain(30, 101), true, "30 numbers")
	row, ok = impl.ReadTerm(c.s, c.vars, "f2("+strings.Repeat("f0(x0,", 14)+"x1"+strings.Repeat(")", 15))
	if !ok || len(row) != 30 {
		t.Fatal(row, ok)
	}
}
