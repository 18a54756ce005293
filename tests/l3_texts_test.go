package tests

import (
	"math/rand"
	"strings"
	"testing"

	"loop.example/theorymodules/impl"
)

func TestP60TextsOfEquationsAreRead(t *testing.T) {
	r := rand.New(rand.NewSource(30))
	for i, c := range settings() {
		list := c.pool(int64(i+2100), 40)
		texts := map[string]impl.Eq{}
		for _, row := range list {
			for range 12 {
				e := impl.Eq{Vars: c.vars, Left: row, Right: anyTerm(r, list)}
				text := impl.EqText(c.s, e)
				if text != eqTextByHand(c.s, e) || (text == "") == eqByHand(c.s, e) {
					t.Fatal(c, e, text)
				}
				if text == "" {
					continue
				}
				back, ok := impl.ReadEq(c.s, text)
				if !ok || !sameEq(back, e) {
					t.Fatal(c, e, text, back, ok)
				}
				if other, twice := texts[text]; twice && !sameEq(other, e) {
					t.Fatal("one text of two", c, e, other)
				}
				texts[text] = e
			}
		}
	}
}

func TestTextsOfEquations(t *testing.T) {
	one, two, three := sigOf("1:000,0,00"), sigOf("2:010,01,10,0,1"), sigOf("3:012,120,20,0,1,2")
	for _, c := range []struct {
		s    impl.Sig
		e    impl.Eq
		text string
	}{
		{one, impl.Eq{Left: []int{1}, Right: []int{2, 1}}, " f1=f2(f1)"},
		{one, impl.Eq{Vars: []int{0}, Left: []int{100}, Right: []int{100}}, "0 x0=x0"},
		{one, impl.Eq{Vars: []int{0}, Left: []int{1}, Right: []int{1}}, "0 f1=f1"},
		{one, impl.Eq{Vars: []int{0, 0, 0}, Left: []int{0, 0, 100, 101, 102}, Right: []int{0, 100, 0, 101, 102}}, "000 f0(f0(x0,x1),x2)=f0(x0,f0(x1,x2))"},
		{one, impl.Eq{Vars: []int{0, 0, 0, 0}, Left: []int{103}, Right: []int{1}}, "0000 x3=f1"},
		{two, impl.Eq{Vars: []int{1, 0}, Left: []int{1, 101}, Right: []int{100}}, "10 f1(x1)=x0"},
		{three, impl.Eq{Vars: []int{2, 0, 1, 2}, Left: []int{103}, Right: []int{0, 101, 102}}, "2012 x3=f0(x1,x2)"},
		{one, impl.Eq{Vars: []int{0}, Left: chain(30, 1), Right: chain(30, 100)}, "0 " + strings.Repeat("f2(", 29) + "f1" + strings.Repeat(")", 29) + "=" + strings.Repeat("f2(", 29) + "x0" + strings.Repeat(")", 29)},
	} {
		if text := impl.EqText(c.s, c.e); text != c.text {
			t.Fatalf("%v: %q", c, text)
		}
		e, ok := impl.ReadEq(c.s, c.text)
		if !ok || !sameEq(e, c.e) {
			t.Fatal(c, e, ok)
		}
	}
	for _, e := range []impl.Eq{
		{}, {Left: []int{1}}, {Right: []int{1}}, {Left: []int{100}, Right: []int{100}}, {Left: []int{2}, Right: []int{2}}, {Vars: []int{1}, Left: []int{1}, Right: []int{1}},
		{Vars: []int{0, 0, 0, 0, 0}, Left: []int{1}, Right: []int{1}}, {Left: chain(31, 1), Right: []int{1}}, {Left: []int{1}, Right: chain(31, 1)},
	} {
		if text := impl.EqText(one, e); text != "" {
			t.Fatal(e, text)
		}
	}
	if text := impl.EqText(two, impl.Eq{Left: []int{3}, Right: []int{4}}); text != "" {
		t.Fatal("two sorts", text)
	}
	for _, bad := range badVars(1) {
		if text := impl.EqText(one, impl.Eq{Vars: bad, Left: []int{1}, Right: []int{1}}); text != "" {
			t.Fatal(bad, text)
		}
	}
	for _, bad := range invalidSigs() {
		if text := impl.EqText(bad, impl.Eq{Left: []int{0}, Right: []int{0}}); text != "" {
			t.Fatal(bad, text)
		}
		for _, text := range []string{"", " f0=f0", "0 x0=x0", "0 f0=f0", " ="} {
			if e, ok := impl.ReadEq(bad, text); ok || !sameEq(e, impl.Eq{}) {
				t.Fatal(bad, text, e)
			}
		}
	}
}

// checkReadEq compares what is read with what the document tells.
func checkReadEq(t *testing.T, s impl.Sig, text string) {
	t.Helper()
	e, ok := impl.ReadEq(s, text)
	want, wantOk := readEqByHand(s, text)
	if ok != wantOk || !sameEq(e, want) {
		t.Fatalf("%q: %v %v, wanted %v %v", text, e, ok, want, wantOk)
	}
	if !ok {
		return
	}
	if again := impl.EqText(s, e); again != text {
		t.Fatalf("%q is written as %q", text, again)
	}
	for _, behind := range []string{"=", ",", " ", "\n", "0", ")"} {
		if e, ok := impl.ReadEq(s, text+behind); ok || !sameEq(e, impl.Eq{}) {
			t.Fatalf("%q is read with %q behind it", text, behind)
		}
	}
}

func TestP61ReadTextsOfEquationsAreCanonical(t *testing.T) {
	s, two := sigOf("1:000,0,00"), sigOf("2:010,01,10,0,1")
	check := func(text string) { checkReadEq(t, s, text) }
	textsOver("01 =fx", 6, "", check)
	textsOver("01 =fx", 9, "0 x", check)
	textsOver("0 =x,)", 14, "0 f0(x0,", check)
	textsOver("01 =f", 9, " f1", check)
	textsOver("012 =", 5, "", func(digits string) {
		check(digits + "x0=x0")
		check(digits + " x0=f1")
		checkReadEq(t, two, digits+" x0=x0")
		checkReadEq(t, two, digits+" f3=f3")
		checkReadEq(t, two, digits+" x0=f4")
		checkReadEq(t, two, "1"+digits+" x0=f1(x1)")
	})
	for first := range 256 {
		for second := range 256 {
			between := string([]byte{byte(first), byte(second)})
			for _, whole := range []string{between, between + " f1=f1", "0" + between + "f1=f1", "0 f1" + between + "x0", "0 " + between + "=x0", "0 x0=" + between, "0 x0=f1" + between, between + "0 x0=x0", "00 x1=x" + between} {
				check(whole)
			}
		}
	}
}

func TestChangedTextsOfEquationsAreReadAsTheyAre(t *testing.T) {
	r := rand.New(rand.NewSource(31))
	const bytes = "fxfx0001234((,,))  ==\n+-\x00\x94\xff"
	for i, c := range settings() {
		list := c.pool(int64(i+2200), 30)
		for range 30 * min(1, len(list)) {
			e := impl.Eq{Vars: c.vars, Left: list[r.Intn(len(list))], Right: list[r.Intn(len(list))]}
			text := impl.EqText(c.s, e)
			checkReadEq(t, c.s, text)
			for at := range len(text) {
				other := string(bytes[r.Intn(len(bytes))])
				for _, changed := range []string{text[:at], text[at:], text[:at] + text[at+1:], text[:at] + other + text[at:], text[:at] + other + text[at+1:], text[:at] + " " + text[at:], text[:at] + "=" + text[at:], text[:at] + text[r.Intn(len(text)):]} {
					checkReadEq(t, c.s, changed)
				}
			}
		}
	}
}

func TestTextsOfNoEquation(t *testing.T) {
	s := sigOf("1:000,0,00")
	for _, text := range []string{
		"", " ", "=", " =", "= ", "0", "0 ", "0 =", "f1", " f1", "f1=f1", "0f1=f1", "x0=x0", "0x0=x0", "0=x0", "0 x0", "0 x0=", "0 =x0", " =f1", " f1=",
		// Two spaces, and two equals signs.
		"  f1=f1", "0  x0=x0", " 0 x0=x0", "0 0 x0=x0", "0 x0 =x0", "0 x0= x0", "0 x0=x0 ", "0 f0(x0, x0)=x0", " f1=f1 ", "0 x0==x0", "0 x0=x0=x0", "0 =x0=x0", "0= x0=x0", "0=x0 x0", "0 x0=x0=", " f1=f1=f1", "=0 x0=x0",
		// Something behind it.
		"0 x0=x0,", "0 x0=x0)", "0 x0=x0\n", "0 x0=x0\x00", "0 x0=x0x0", "0 x0=x00", " f1=f1f1", " f1=f1,f1", "0 x0=x0 0",
		// Sorts that there are not, and letters that are too many.
		"1 x0=x0", "1 f1=f1", "01 x0=x0", "9 f1=f1", "a x0=x0", "- f1=f1", "-0 f1=f1", "+0 f1=f1", "0, f1=f1", "0,0 f1=f1", ":0 f1=f1", "/ f1=f1", "\x00 f1=f1", "\xff f1=f1", "\u0660 f1=f1", "\t f1=f1", "\tf1=f1", "\u00a0f1=f1",
		"00000 x0=x0", "00000 f1=f1", "000000 f1=f1", strings.Repeat("0", 1000000) + " f1=f1",
		// What is no text of a term.
		" x0=x0", "0 x1=x1", "0 x0=x1", "0 f1=x1", " f1=x0", "0 f3=f3", " f0=f0", " f2=f2", "0 f2x0=x0", "0 x=x", "0 x00=x0", "0 f01=f1", "0 f1()=f1", "0 f0(x0)=x0", "0 f0(x0,x0=x0", "0 f0(x0,x0))=x0", "0 (x0)=x0", "0 X0=X0", "0 x0=f2(x0", "0 x0=f2(x0))", "0 x0=f2((x0))",
		" " + textOfChain(30) + "=f2(" + textOfChain(30) + ")", " f2(" + textOfChain(30) + ")=f1", strings.Repeat(" ", 1000000), strings.Repeat("=", 1000000), " " + strings.Repeat("f1=", 1000000), " f1=" + strings.Repeat("f2(", 1000000),
	} {
		if e, ok := impl.ReadEq(s, text); ok || !sameEq(e, impl.Eq{}) {
			t.Fatalf("%.80q: %v", text, e)
		}
	}
	// Terms of two sorts.
	two := sigOf("2:010,01,10,0,1")
	for _, text := range []string{" f3=f4", "01 x0=x1", "10 x1=x0", "0 x0=f1(x0)", "1 f2(x0)=x0", "10 f1(x0)=x0", "01 f0(x1,x0)=x0", "2 f3=f3", "1 x0=f3"} {
		if e, ok := impl.ReadEq(two, text); ok || !sameEq(e, impl.Eq{}) {
			t.Fatalf("%q: %v", text, e)
		}
	}
}
