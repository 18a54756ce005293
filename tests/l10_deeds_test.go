package tests

import (
	"math"
	"math/rand"
	"strings"
	"testing"

	"loop.example/theorymodules/impl"
)

// oneBytes returns the texts of one byte.
func oneBytes() []string {
	var list []string
	for b := range 256 {
		list = append(list, string([]byte{byte(b)}))
	}
	return list
}

// deedTexts returns what may be named in deeds: texts of no byte and of one, of each byte at the beginning, in between and at the end, and such that are themselves texts of deeds.
func deedTexts() []string {
	list := append([]string{"", "  ", "~~", " ~", "~ ", "1:0", " 1:0", "1:0 ", "0 x0=x0", " f0=f0", "sig 1:0", "axiom", "drop 1", "back", "0", "9", "10", "-1", "é", "a\u00a0b", "\u2028", "1:0\nback", strings.Repeat(" ", 1000), strings.Repeat("~", 100000), strings.Repeat("x", 1000) + "\n"}, oneBytes()...)
	for _, b := range oneBytes() {
		list = append(list, b+"1:", "1"+b+":", "1:"+b, b+b)
	}
	return list
}

// checkOfDeed looks whether the text of a deed, if it has one, is read as the deed, and reports whether it has one.
func checkOfDeed(t *testing.T, d impl.Deed) bool {
	t.Helper()
	text := checkDeedText(t, d)
	if text == "" {
		return false
	}
	read, ok := impl.ReadDeed(text)
	if !ok || read != d {
		t.Fatalf("%+v is written as %q and read as %+v %v", d, text, read, ok)
	}
	return true
}

func TestP75TextsOfDeedsAreRead(t *testing.T) {
	seen := map[[2]int]int{}
	for kind := -2; kind <= 5; kind++ {
		for _, text := range deedTexts() {
			for _, number := range []int{0, 1, 9, 10, -1} {
				has := 0
				if checkOfDeed(t, impl.Deed{Kind: kind, Number: number, Text: text}) {
					has = 1
				}
				seen[[2]int{kind, has}]++
			}
		}
	}
	for kind, has := range map[int]int{-1: 0, 4: 0, impl.BnSig: 95, impl.BnAxiom: 95, impl.BnDrop: 3, impl.BnBack: 1} {
		if many := seen[[2]int{kind, 1}]; many < has || (has < 4) && many != has {
			t.Fatal(kind, seen)
		}
	}
	for i, b := range benches(410) {
		r := rand.New(rand.NewSource(int64(i + 6200)))
		for _, d := range append(anyDeeds(r, b, 20), wrongDeeds()...) {
			checkOfDeed(t, d)
		}
	}
}

func TestP75NumbersOfDeeds(t *testing.T) {
	for _, number := range []int{math.MinInt, -256, -10, -9, -2, -1, 0, 1, 2, 3, 4, 5, 6, 7, 8, 9, 10, 11, 19, 90, 99, 100, 256, 266, math.MaxInt} {
		if has := checkOfDeed(t, impl.Deed{Kind: impl.BnDrop, Number: number}); has != (number >= 0 && number <= 9) {
			t.Fatal(number, has)
		}
		for _, d := range []impl.Deed{{Kind: impl.BnBack, Number: number}, {Kind: impl.BnSig, Number: number, Text: "1:"}, {Kind: impl.BnAxiom, Number: number, Text: "1:"}} {
			if has := checkOfDeed(t, d); has != (number == 0) {
				t.Fatal(d, has)
			}
		}
		for _, d := range []impl.Deed{{Kind: impl.BnDrop, Number: number, Text: "0"}, {Kind: impl.BnBack, Number: number, Text: "0"}, {Kind: impl.BnSig, Number: number}, {Kind: impl.BnAxiom, Number: number}, {Kind: -1, Number: number}, {Kind: 4, Number: number}, {Kind: 4, Number: number, Text: "1:"}} {
			if checkOfDeed(t, d) {
				t.Fatal(d)
			}
		}
		// Without a number and a text a kind alone is a deed if it is BnDrop or BnBack.
		if has := checkOfDeed(t, impl.Deed{Kind: number}); has != (number == impl.BnDrop || number == impl.BnBack) {
			t.Fatal(number, has)
		}
	}
}

func TestTextsOfDeeds(t *testing.T) {
	for _, c := range []struct {
		deed impl.Deed
		text string
	}{
		{impl.Deed{Kind: impl.BnSig, Text: "1:000,0,00"}, "sig 1:000,0,00"},
		{impl.Deed{Kind: impl.BnSig, Text: "no signature"}, "sig no signature"},
		{impl.Deed{Kind: impl.BnSig, Text: " "}, "sig  "},
		{impl.Deed{Kind: impl.BnSig, Text: "~"}, "sig ~"},
		{impl.Deed{Kind: impl.BnSig, Text: " 1: "}, "sig  1: "},
		{impl.Deed{Kind: impl.BnAxiom, Text: "0 f0(f1,x0)=x0"}, "axiom 0 f0(f1,x0)=x0"},
		{impl.Deed{Kind: impl.BnAxiom, Text: " f1=f1"}, "axiom  f1=f1"},
		{impl.Deed{Kind: impl.BnAxiom, Text: "back"}, "axiom back"},
		{impl.Deed{Kind: impl.BnAxiom, Text: "~ ~"}, "axiom ~ ~"},
		{impl.Deed{Kind: impl.BnDrop}, "drop 0"},
		{impl.Deed{Kind: impl.BnDrop, Number: 7}, "drop 7"},
		{impl.Deed{Kind: impl.BnDrop, Number: 9}, "drop 9"},
		{impl.Deed{Kind: impl.BnBack}, "back"},
	} {
		read, ok := impl.ReadDeed(c.text)
		if impl.DeedText(c.deed) != c.text || !ok || read != c.deed {
			t.Fatalf("%+v is written as %q, and %q read as %+v %v", c.deed, impl.DeedText(c.deed), c.text, read, ok)
		}
	}
	for _, d := range []impl.Deed{
		{}, {Kind: impl.BnAxiom}, {Kind: impl.BnSig, Text: "\n"}, {Kind: impl.BnSig, Text: "1:\n"}, {Kind: impl.BnAxiom, Text: "\x1f"}, {Kind: impl.BnAxiom, Text: "\x7f"}, {Kind: impl.BnSig, Text: "1:\x00"}, {Kind: impl.BnSig, Text: "\xff"}, {Kind: impl.BnAxiom, Text: "0 x0=x0\t"}, {Kind: impl.BnSig, Text: "é"},
		{Kind: impl.BnDrop, Number: -1}, {Kind: impl.BnDrop, Number: 10}, {Kind: impl.BnDrop, Text: "1"}, {Kind: impl.BnDrop, Number: 1, Text: "1"},
		{Kind: impl.BnBack, Number: 1}, {Kind: impl.BnBack, Text: "x"}, {Kind: impl.BnSig, Number: 1, Text: "1:"}, {Kind: impl.BnAxiom, Number: -1, Text: "0 x0=x0"},
		{Kind: -1}, {Kind: 4}, {Kind: -1, Text: "1:"}, {Kind: 4, Text: "1:"}, {Kind: 4, Number: 1}, {Kind: math.MaxInt}, {Kind: math.MinInt},
	} {
		if text := impl.DeedText(d); text != "" {
			t.Fatalf("%+v is written as %q", d, text)
		}
	}
}

// checkOfText looks whether a text, if it is read as a deed, is the text of this deed, and is refused with a newline behind it; it reports whether it is read.
func checkOfText(t *testing.T, text string) bool {
	t.Helper()
	if !checkReadDeed(t, text) {
		return false
	}
	d, _ := impl.ReadDeed(text)
	if back := impl.DeedText(d); back != text {
		t.Fatalf("%q is read as %+v and written as %q", text, d, back)
	}
	if d, ok := impl.ReadDeed(text + "\n"); ok || d != (impl.Deed{}) {
		t.Fatalf("%q is read with a newline behind it", text)
	}
	return true
}

func TestP76ReadTextsAreCanonical(t *testing.T) {
	check := func(text string) { checkOfText(t, text) }
	for _, whole := range []string{"sig 1:0", "axiom 0 x0=x0", "axiom  f0=f0", "drop 3", "back", "sig  ", "sig ~"} {
		if !checkOfText(t, whole) {
			t.Fatal("refused", whole)
		}
		for at := range len(whole) {
			check(whole[:at])
			check(whole[at:])
			check(whole[:at] + whole[at+1:])
			check(whole[:at] + strings.ToUpper(whole[at:at+1]) + whole[at+1:])
			for _, b := range oneBytes() {
				check(whole[:at] + b + whole[at:])
				check(whole[:at] + b + whole[at+1:])
			}
		}
		for _, b := range oneBytes() {
			check(whole + b)
			check(b)
		}
		check(strings.ToUpper(whole))
		check(whole + whole)
		check(whole + "\n" + whole)
	}
	textsOver("drop 01\n", 6, "", check)
	textsOver("backsig ", 5, "", check)
}

func TestP76TextsBehindWords(t *testing.T) {
	read := 0
	for _, word := range []string{"sig", "axiom", "drop", "back", "Sig", "Drop", "dro", "backs", "now"} {
		textsOver("09 +-_.x~\n\x1f\x7f\xff", 3, "", func(rest string) {
			if checkOfText(t, word+rest) {
				read++
			}
		})
	}
	// One or two of nine bytes behind sig and axiom, two digits behind drop, and back alone.
	if read != 2*(9+81)+2+1 {
		t.Fatal(read)
	}
}

func TestTextsOfNoDeed(t *testing.T) {
	for _, text := range []string{
		"", " ", "\n", "sig", "sig ", "axiom", "axiom ", "drop", "drop ", "back ", " back", "back\n", "back 0", "back back", "backs", "bac",
		"sig\n", "sig \n", "sig 1:\n", "sig\t1:", "sig1:", "Sig 1:", "SIG 1:", " sig 1:", "sigs 1:", "si 1:", "sig\u00a01:", "sig 1:\x00", "sig \xff", "sig é", "sig \x7f", "sig \x1f",
		"axiom\t0 x0=x0", "Axiom 0 x0=x0", "axioms 0 x0=x0", "axiom0 x0=x0", "axiom 0 x0=x0\n", "axiom 0 x0=x0\r",
		"drop  1", "drop 1 ", "drop 01", "drop 00", "drop +1", "drop -1", "drop -0", "drop +0", "drop 10", "drop 99", "drop 1.0", "drop 1e0", "drop 0x1", "drop x", "drop a", "drop \u0661", "drop 1\n", "drop 1 1", "drop /", "drop :", "Drop 1", "DROP 1", "drop\t1", "drop1", "drops 1", "drop _1", "drop 1_0", "drop " + strings.Repeat("9", 1000), "drop " + strings.Repeat("0", 1000), "drop 9223372036854775807", "drop 9223372036854775808", "drop 18446744073709551616", "drop 4294967296",
		"BACK", "Back", "now", "axioms", "past", "models", "ask 0 x0=x0", "show 0", "proof 0 x0=x0", "0", "3", "back\x00", "\x00back", "\xff", strings.Repeat(" ", 100000), strings.Repeat("back", 100000), "sig " + strings.Repeat("1:", 100000) + "\n",
	} {
		if d, ok := impl.ReadDeed(text); ok || d != (impl.Deed{}) {
			t.Fatalf("%.80q is read as %+v", text, d)
		}
		checkReadDeed(t, text)
	}
}

// Bytes by chance, also behind the words.
func TestP76ArbitraryBytes(t *testing.T) {
	r := rand.New(rand.NewSource(411))
	words := []string{"", "", "sig ", "axiom ", "drop ", "back", "sig", "drop"}
	for range 20000 {
		text := make([]byte, r.Intn(12))
		for i := range text {
			text[i] = byte(r.Intn(256))
			if r.Intn(2) == 0 {
				text[i] = byte(' ' + r.Intn(96))
			}
		}
		checkOfText(t, words[r.Intn(len(words))]+string(text))
	}
}
