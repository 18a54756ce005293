package tests

import (
	"math/rand"
	"slices"
	"strings"
	"testing"

	"loop.example/theorymodules/impl"
)

// checkWhole looks whether a journal of deeds is written as the document tells it, and, if it has a text, read as these deeds, and the whole text; it returns the text.
func checkWhole(t *testing.T, list []impl.Deed) string {
	t.Helper()
	text, want := impl.JournalText(list), journalByHand(list)
	if text != want {
		t.Fatalf("got %q, wanted %q for %+v", text, want, list)
	}
	if text == "" && len(list) > 0 {
		return ""
	}
	read, length := checkReadJournal(t, text)
	if !slices.Equal(read, list) || length != len(text) {
		t.Fatalf("%+v is written as %q and read as %+v, %v", list, text, read, length)
	}
	return text
}

func TestP77JournalsAreRead(t *testing.T) {
	checkWhole(t, nil)
	checkWhole(t, []impl.Deed{})
	wrong := slices.DeleteFunc(wrongDeeds(), func(d impl.Deed) bool { return deedTextByHand(d) != "" })
	for i, b := range benches(420) {
		r := rand.New(rand.NewSource(int64(i + 6300)))
		list := deedsWithTexts(r, b, i%45)
		if text := checkWhole(t, list); text == "" && len(list) > 0 {
			t.Fatal("no text", list)
		}
		// One without a text among others, at each place.
		for at := range len(list) + 1 {
			if text := checkWhole(t, slices.Insert(slices.Clone(list), at, wrong[r.Intn(len(wrong))])); text != "" {
				t.Fatal("a text", list, at, text)
			}
		}
	}
	for _, d := range wrong {
		if text := checkWhole(t, []impl.Deed{d}); text != "" {
			t.Fatal("a text", d, text)
		}
	}
}

func TestP77TextsOfJournals(t *testing.T) {
	all := []impl.Deed{{Kind: impl.BnSig, Text: "1:00"}, {Kind: impl.BnAxiom, Text: " f0=f0"}, {Kind: impl.BnDrop, Number: 9}, {Kind: impl.BnBack}, {Kind: impl.BnSig, Text: " "}}
	if text := checkWhole(t, all); text != "sig 1:00\naxiom  f0=f0\ndrop 9\nback\nsig  \n" {
		t.Fatalf("%q", text)
	}
	if text := impl.JournalText(nil); text != "" {
		t.Fatalf("%q", text)
	}
	if text := checkWhole(t, []impl.Deed{{Kind: impl.BnBack}}); text != "back\n" {
		t.Fatalf("%q", text)
	}
	// There may be more than are done or said at once.
	for _, many := range []int{39, 40, 41, 1000, 20000} {
		if text := checkWhole(t, slices.Repeat(all[3:4], many)); text != strings.Repeat("back\n", many) {
			t.Fatal(many)
		}
	}
	long := impl.Deed{Kind: impl.BnAxiom, Text: strings.Repeat("x", 1000000)}
	checkWhole(t, []impl.Deed{long, {Kind: impl.BnBack}, long})
	for _, d := range []impl.Deed{{}, {Kind: impl.BnDrop, Number: 10}, {Kind: impl.BnSig, Text: "1:\n"}, {Kind: 4}, {Kind: impl.BnBack, Number: 1}} {
		for at := range len(all) + 1 {
			if text := impl.JournalText(slices.Insert(slices.Clone(all), at, d)); text != "" {
				t.Fatalf("%+v at %d: %q", d, at, text)
			}
		}
	}
}

// checkCut looks whether of any beginning of the text of a journal the first ones of the deeds are read, as many as there are whole lines, and the bench to which these lead is one on the way, told by said lines, too.
func checkCut(t *testing.T, b impl.Bench, list []impl.Deed, text string) {
	t.Helper()
	for at := range len(text) + 1 {
		many := strings.Count(text[:at], "\n")
		read, length := impl.ReadJournal(text[:at])
		if !slices.Equal(read, list[:many]) || length != strings.LastIndex(text[:at], "\n")+1 {
			t.Fatalf("%q is read as %+v, %v", text[:at], read, length)
		}
		if impl.JournalText(read) != text[:length] {
			t.Fatalf("%+v is no longer %q", read, text[:length])
		}
		if at < len(text) && text[at] != '\n' {
			continue
		}
		checkSaid(t, b, read)
	}
}

// checkSaid looks whether deeds lead to the same bench if they are done and if they are said, and whether the answers tell which of them were done.
func checkSaid(t *testing.T, b impl.Bench, list []impl.Deed) {
	t.Helper()
	after, many := impl.BenchRun(b, list)
	lines := strings.Split(strings.TrimSuffix(impl.JournalText(list), "\n"), "\n")[:len(list)]
	said, answers := impl.BenchSay(b, lines)
	if len(list) > 40 {
		wantBench(t, after, impl.Bench{}, b, list)
		wantBench(t, said, impl.Bench{}, b, lines)
		if many != 0 || answers != nil {
			t.Fatal("too many", many, answers)
		}
		return
	}
	wantBench(t, said, after, b, list)
	oks := 0
	for _, answer := range answers {
		switch answer {
		case "ok":
			oks++
		case "no":
		default:
			t.Fatal("answered", b, lines, answers)
		}
	}
	if oks != many || len(answers) != len(list) {
		t.Fatal("so many were done", b, list, oks, many)
	}
}

func TestP40WhereverAJournalIsCutABenchOfBeforeIsFound(t *testing.T) {
	for i, b := range benches(421) {
		r := rand.New(rand.NewSource(int64(i + 6400)))
		list := deedsWithTexts(r, b, 14)
		checkCut(t, b, list, impl.JournalText(list))
		list = deedsWithTexts(r, b, 55)
		checkSaid(t, b, list[:min(40, len(list))])
		checkSaid(t, b, list)
	}
	b := impl.Bench{Now: group().t}
	list := []impl.Deed{{Kind: impl.BnSig, Text: "2:01"}, {Kind: impl.BnAxiom, Text: "00 f0(x0)=f0(x1)"}, {Kind: impl.BnSig, Text: "back"}, {Kind: impl.BnAxiom, Text: " "}, {Kind: impl.BnDrop, Number: 9}, {Kind: impl.BnBack}, {Kind: impl.BnBack}, {Kind: impl.BnDrop}}
	checkCut(t, b, list, "sig 2:01\naxiom 00 f0(x0)=f0(x1)\nsig back\naxiom  \ndrop 9\nback\nback\ndrop 0\n")
	after, many := impl.BenchRun(b, list)
	want := impl.Bench{Now: withAxioms(b.Now, b.Now.Axioms[1:]...), Past: []impl.Theory{b.Now}}
	wantBench(t, after, want)
	if many != 5 {
		t.Fatal(many)
	}
}

// checkFirst looks whether the deeds of the first lines of any text are what was read, and what stands behind them is no further one.
func checkFirst(t *testing.T, text string) int {
	t.Helper()
	list, length := checkReadJournal(t, text)
	if impl.JournalText(list) != text[:length] {
		t.Fatalf("%q is read as %+v, %v", text, list, length)
	}
	if more, others := impl.ReadJournal(text[length:]); len(more) != 0 || others != 0 {
		t.Fatalf("behind %q: %+v", text[:length], more)
	}
	return len(list)
}

func TestP40TextsOfNoJournal(t *testing.T) {
	for _, c := range []struct {
		text         string
		many, length int
	}{
		{"", 0, 0}, {"\n", 0, 0}, {"back", 0, 0}, {"back\n", 1, 5}, {"back\nback", 1, 5}, {"back\n\n", 1, 5}, {"\nback\n", 0, 0}, {"back\n\nback\n", 1, 5}, {"back\n \nback\n", 1, 5},
		{"sig 1:00\ndrop 0\nback", 2, 16}, {"sig 1:00\ndrop 0\nback\n", 3, 21}, {"sig 1:00\r\ndrop 0\n", 0, 0}, {"drop 0\ndrop 10\ndrop 1\n", 1, 7}, {"drop 0\nnow\ndrop 1\n", 1, 7}, {"drop 0\n drop 1\n", 1, 7},
		{"sig \nback\n", 0, 0}, {"sig  \nback\n", 2, 11}, {"axiom \x7f\n", 0, 0}, {"back\x00\n", 0, 0}, {"back\n\x00", 1, 5}, {"back\nBACK\n", 1, 5}, {"axiom é\n", 0, 0}, {"axiom ~\n", 1, 8}, {"\xff\nback\n", 0, 0},
		{strings.Repeat("drop 7\n", 41), 41, 287}, {strings.Repeat("drop 7\n", 10000) + "drop", 10000, 70000}, {strings.Repeat("\n", 100000), 0, 0}, {"sig " + strings.Repeat("x", 100000), 0, 0},
	} {
		if list, length := checkReadJournal(t, c.text); len(list) != c.many || length != c.length {
			t.Fatalf("%.80q is read as %+v, %v", c.text, list, length)
		}
		checkFirst(t, c.text)
	}
}

// Journals with something changed, and arbitrary bytes.
func TestP40ArbitraryBytes(t *testing.T) {
	seen := map[int]int{}
	for i, b := range benches(422) {
		r := rand.New(rand.NewSource(int64(i + 6500)))
		text := journalByHand(deedsWithTexts(r, b, 8))
		for at := range len(text) {
			other := string([]byte{byte(r.Intn(256))})
			for _, changed := range []string{text[at:], text[:at] + text[at+1:], text[:at] + other + text[at:], text[:at] + other + text[at+1:], text[:at] + "\n" + text[at:], text[:at] + "\n" + text[at+1:], text[:at] + text[r.Intn(len(text)):]} {
				seen[min(5, checkFirst(t, changed))]++
			}
		}
	}
	wantSeen(t, seen, 6, 500)
	r := rand.New(rand.NewSource(423))
	lines := []string{"back\n", "drop 3\n", "sig 1:\n", "axiom ~\n", "\n", "back", " ", "\x00", "\xff", "drop 10\n", "now\n", "sig \n"}
	for range 20000 {
		text := ""
		for range r.Intn(6) {
			text += lines[r.Intn(r.Intn(len(lines))+1)]
		}
		checkFirst(t, text)
	}
}
