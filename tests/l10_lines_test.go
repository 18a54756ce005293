package tests

import (
	"math/rand"
	"slices"
	"strconv"
	"strings"
	"testing"

	"loop.example/theorymodules/impl"
)

// wrongLines returns lines that are answered by what for every valid bench.
func wrongLines() []string {
	list := []string{
		"", " ", "  ", "\n", "\t", "\x00", "\xff", "what", "ok", "no", "0", "Now", "NOW", "no w", "now ", " now", "now\n", "\nnow", "nownow", "now 0", "axioms ", " axioms", "axioms\n", "axiom", "axiom ", "past ", " past", "past\n", "past 0", "models ", " models", "models\n", "models 2", "model", "Models",
		"ask", "ask ", "ask  ", "ask\n", "ask now", "ask 0", "ask x0=x0", "ask 0x0=x0", "ask0 x0=x0", "ask 0 x0=x0 ", "ask 0 x0=x0\n", "ask  0 x0=x0", " ask 0 x0=x0", "ask 0 x0", "ask 0 x0=", "ask 0 x0=x1", "ask 0 x0=x0=x0", "ask 9 x0=x0", "ask 00000 x0=x0", "Ask 0 x0=x0", "ASK 0 x0=x0", "asks 0 x0=x0", "ask\t0 x0=x0", "ask ask 0 x0=x0", "as 0 x0=x0",
		"proof", "proof ", "proof  ", "proof\n", "proof 0", "proof x0=x0", "proof 0x0=x0", "proof 0 x0=x0 ", "proof 0 x0=x0\n", "proof  0 x0=x0", " proof 0 x0=x0", "proof 0 x0=x1", "proof 0 x0==x0", "proof 9 x0=x0", "Proof 0 x0=x0", "proofs 0 x0=x0", "proof\t0 x0=x0", "proof proof 0 x0=x0",
		"show", "show ", "show  ", "show\n", "show  0", "show 0 ", " show 0", "show 0\n", "show 00", "show 01", "show 05", "show +0", "show +1", "show -0", "show -1", "show 6", "show 7", "show 9", "show 10", "show 0x0", "show 0.0", "show 1e0", "show x", "show a", "show /", "show :", "show \u0661", "show 0 0", "show 0 x0=x0", "show\t0", "Show 0", "SHOW 0", "shows 0", "show0", "show show 0", "show " + strings.Repeat("0", 1000), "show " + strings.Repeat("9", 1000), "show 4294967296", "show 18446744073709551616",
		"sig", "sig ", "sig\n", "sig 1:\n", "sig \x7f", "Sig 1:", " sig 1:", "axiom 0 x0=x0\n", "Axiom 0 x0=x0", " axiom 0 x0=x0", "drop", "drop ", "drop 10", "drop -1", "drop +1", "drop 00", "drop 01", "drop 0 ", "drop  0", "drop 0\n", " drop 0", "back ", " back", "back\n", "Back", "back 0", "back\nback",
		"0 x0=x0", " x0=x0", "1:000", "f0", strings.Repeat(" ", 10000), strings.Repeat("now", 10000), "ask " + strings.Repeat("0", 10000) + " x0=x0", "ask 0 " + strings.Repeat("f0(", 10000), "proof " + strings.Repeat(" ", 10000),
	}
	return append(list, oneBytes()...)
}

// anyLine returns a line for a valid bench, by chance.
func anyLine(r *rand.Rand, b impl.Bench) string {
	switch r.Intn(12) {
	case 0:
		return []string{"now", "axioms", "past", "models"}[r.Intn(4)]
	case 1:
		return "ask " + anyEqText(r, b.Now)
	case 2:
		return "proof " + anyEqText(r, b.Now)
	case 3, 4:
		return "show " + strconv.Itoa(r.Intn(len(b.Now.Axioms)+2)-1)
	case 5:
		wrong := wrongLines()
		return wrong[r.Intn(len(wrong))]
	}
	if text := deedTextByHand(anyDeed(r, b)); text != "" {
		return text
	}
	return "sig none"
}

// anyLines returns so many lines, one after the other, for a valid bench, by chance.
func anyLines(r *rand.Rand, b impl.Bench, many int) []string {
	var lines []string
	for range many {
		line := anyLine(r, b)
		if d, ok := deedByHand(line); ok {
			b, _ = doByHand(b, d)
		}
		lines = append(lines, line)
	}
	return lines
}

// smallBenches returns benches over theories whose models with two values can be gone through.
func smallBenches(seed int64, many int) []impl.Bench {
	r := rand.New(rand.NewSource(seed))
	theories := smallTheories(seed, many)
	var list []impl.Bench
	for i, theory := range theories {
		list = append(list, impl.Bench{Now: theory, Past: pasts(r, theories, i%11)})
	}
	return list
}

// checkQuiet looks whether the bench after a line is valid, and the one before, unless the answer is ok; it returns the bench and the answer.
func checkQuiet(t *testing.T, b impl.Bench, line string) (impl.Bench, string) {
	t.Helper()
	after, answer := checkLine(t, b, line)
	if !impl.BenchValid(after) || answer == "" {
		t.Fatalf("not valid after %q, %q: %v", line, answer, after)
	}
	if answer != "ok" {
		wantBench(t, after, b, line, answer)
	}
	return after, answer
}

func TestP78QuestionsChangeNothing(t *testing.T) {
	seen := map[string]int{}
	for i, b := range smallBenches(430, 120) {
		r := rand.New(rand.NewSource(int64(i + 6600)))
		for range 12 {
			line := anyLine(r, b)
			after, answer := checkQuiet(t, b, line)
			if _, err := strconv.Atoi(answer); err == nil {
				answer = "a number"
			}
			if strings.ContainsAny(answer, ":=") {
				answer = "a text"
			}
			seen[answer]++
			now, told := impl.BenchLine(b, "now")
			wantBench(t, now, b)
			if s, ok := impl.ReadSig(told); !ok || !sameSig(s, b.Now.Over) {
				t.Fatal("not read as the signature", b, told)
			}
			b = after
		}
	}
	wantSeen(t, seen, 8, 20)
}

func TestP78WhatIsNoMore(t *testing.T) {
	list := []impl.Bench{{Now: known("1:")}, {Now: group().t, Past: pasts(rand.New(rand.NewSource(431)), []impl.Theory{group().t}, 10)}, {Now: known("1:000,0", slices.Repeat([]string{" f1=f1"}, 6)...)}, {Now: known("3:012,2")}}
	for _, b := range append(list, smallBenches(432, 30)[20:]...) {
		for _, line := range wrongLines() {
			if _, answer := checkQuiet(t, b, line); answer != "what" {
				t.Fatalf("%q is answered by %q for %v", line, answer, b)
			}
		}
	}
	for _, b := range badBenches() {
		for _, line := range []string{"", " ", "now", "axioms", "past", "models", "ask 0 x0=x0", "ask 0 f0(f1,x0)=x0", "proof 0 x0=x0", "show 0", "sig 1:", "axiom 0 x0=x0", "drop 0", "back", "what"} {
			after, answer := impl.BenchLine(b, line)
			if answer != "" {
				t.Fatalf("%q is answered by %q for %v", line, answer, b)
			}
			wantBench(t, after, impl.Bench{}, b, line)
		}
	}
}

// said is a line, and its answer.
type said struct {
	line, answer string
}

// checkSaidCases compares the answers to lines, each to the same bench.
func checkSaidCases(t *testing.T, b impl.Bench, list []said) {
	t.Helper()
	for _, c := range list {
		if _, answer := checkQuiet(t, b, c.line); answer != c.answer {
			t.Fatalf("%q is answered by %q, not %q", c.line, answer, c.answer)
		}
	}
}

func TestAnswersToQuestions(t *testing.T) {
	before := []impl.Theory{known("1:"), known("2:"), known("3:")}
	checkSaidCases(t, impl.Bench{Now: group().t, Past: before}, []said{
		{"now", "1:000,0,00"}, {"axioms", "3"}, {"past", "3"}, {"models", "2"},
		{"show 0", "000 f0(f0(x0,x1),x2)=f0(x0,f0(x1,x2))"}, {"show 1", "0 f0(f1,x0)=x0"}, {"show 2", "0 f0(f2(x0),x0)=f1"}, {"show 3", "what"}, {"show -1", "what"},
		{"ask 0 f0(f1,x0)=x0", "yes"}, {"ask 0 f0(x0,x0)=x0", "no"}, {"ask 00 f0(x0,x1)=f0(x1,x0)", "open"}, {"ask  f1=f1", "yes"}, {"ask 00 x0=x1", "no"}, {"ask 01 x0=x0", "what"}, {"ask 0 f3=x0", "what"}, {"ask f1=f1", "what"},
		{"proof 0 f0(f2(x0),f0(x0,x0))=x0", "3"}, {"proof 0 f0(f1,x0)=x0", "1"}, {"proof 0 x0=x0", "0"}, {"proof  f1=f1", "0"}, {"proof 00 f0(x0,x1)=f0(x1,x0)", "none"}, {"proof 0 f0(x0,x0)=x0", "none"}, {"proof 0 f1=f0(f2(x0),x0)", "none"}, {"proof 1 x0=x0", "what"},
		{"axiom 0 f0(f1,x0)=x0", "no"}, {"axiom 0 f0(x0,f1)=x0", "ok"}, {"axiom f1=f1", "no"}, {"axiom  f1=f1", "ok"}, {"drop 2", "ok"}, {"drop 3", "no"}, {"drop 9", "no"}, {"sig 2:01", "ok"}, {"sig 2:02", "no"}, {"sig now", "no"}, {"axiom  ", "no"}, {"back", "ok"},
	})
	// Nothing of before, no axioms and no operations.
	checkSaidCases(t, impl.BenchNew(sigOf("1:")), []said{{"now", "1:"}, {"axioms", "0"}, {"past", "0"}, {"models", "1"}, {"show 0", "what"}, {"ask 0 x0=x0", "yes"}, {"ask 00 x0=x1", "no"}, {"proof 00 x1=x1", "0"}, {"proof 00 x1=x0", "none"}, {"ask  f0=f0", "what"}, {"drop 0", "no"}, {"back", "no"}})
	// As much of all as there may be.
	six := []string{"0 x0=x0", "00 x0=x0", "000 x0=x0", "0000 x0=x0", "00 x1=x1", "000 x2=x2"}
	checkSaidCases(t, impl.Bench{Now: known("1:000", six...), Past: slices.Repeat(before[:1], 10)}, []said{{"axioms", "6"}, {"past", "10"}, {"models", "16"}, {"show 0", six[0]}, {"show 3", six[3]}, {"show 5", six[5]}, {"show 6", "what"}, {"axiom 000 x0=x1", "no"}, {"drop 5", "ok"}, {"drop 6", "no"}, {"sig 3:", "ok"}, {"back", "ok"}})
	// Models with two values of each sort: none of the axioms, one, or too many to be gone through.
	for _, c := range []struct {
		theory impl.Theory
		many   string
	}{
		{known("1:", "00 x0=x1"), "0"}, {known("2:"), "1"}, {known("3:"), "1"}, {known("3:", "22 x0=x1"), "0"}, {known("1:00"), "4"}, {known("2:01,10"), "16"}, {known("3:012,2"), "32"}, {known("1:000"), "16"}, {known("1:000,000"), "256"},
		{known("1:000,00,00,00,0"), "2048"}, {known("1:000,00,00,00,0,0"), "0"}, {known("1:000,000,000"), "0"}, {known("1:000,000,000", "00 f0(x0,x1)=x0"), "0"}, {known("3:012,121,200"), "0"},
		{known("2:01,10", "0 f1(f0(x0))=x0"), "2"}, {known("1:000", "000 f0(f0(x0,x1),x2)=f0(x0,f0(x1,x2))"), "8"},
	} {
		checkSaidCases(t, impl.Bench{Now: c.theory}, []said{{"models", c.many}})
	}
	// Where there are no models to go through and no proof is found it is open.
	checkSaidCases(t, impl.Bench{Now: known("1:000,000,000", "00 f0(x0,x1)=f1(x1,x0)")}, []said{{"ask 00 f1(x0,x1)=f0(x1,x0)", "yes"}, {"ask 00 f0(x0,x1)=f2(x0,x1)", "open"}, {"ask 00 x0=x1", "open"}})
}

// Numbers of steps of one digit and of two, up to as many as there may be, and one more.
func TestAnswersToProofs(t *testing.T) {
	w := worldOf("1:00,00,00,00,00,0", nil, "0 f0(f2(x0))=f3(f0(x0))", " f0(f5)=f1(f5)", "0 f3(f1(x0))=f1(f4(x0))")
	u := []int{0, 2, 2, 2, 2, 2, 2, 2, 2, 2, 2, 5}
	terms, _ := spreadByHand(w.t, nil, u, 150)
	if len(terms) != 22 {
		t.Fatal(terms)
	}
	var list []said
	for i, row := range terms {
		answer, told := strconv.Itoa(i), "yes"
		if i > 20 {
			answer, told = "none", "open"
		}
		text := impl.EqText(w.s, impl.Eq{Left: u, Right: row})
		list = append(list, said{"proof " + text, answer}, said{"ask " + text, told})
	}
	checkSaidCases(t, impl.Bench{Now: w.t}, list)
}

// checkShown looks whether each axiom of a bench is shown as an equation that is read as it is, and nothing behind them.
func checkShown(t *testing.T, b impl.Bench) {
	t.Helper()
	for k, e := range b.Now.Axioms {
		same, answer := impl.BenchLine(b, "show "+strconv.Itoa(k))
		read, ok := impl.ReadEq(b.Now.Over, answer)
		if !ok || !sameEq(read, e) {
			t.Fatalf("%v is shown as %q", e, answer)
		}
		wantBench(t, same, b)
	}
	if _, answer := impl.BenchLine(b, "show "+strconv.Itoa(len(b.Now.Axioms))); answer != "what" {
		t.Fatalf("%q is shown", answer)
	}
}

// checkSayParts looks whether lines, in two parts, one after the other, lead to the same bench and the same answers, of which none is empty, and whether axioms are shown as they are behind them.
func checkSayParts(t *testing.T, b impl.Bench, lines []string, cuts []int) {
	t.Helper()
	whole, answers := checkSay(t, b, lines)
	if !impl.BenchValid(whole) || len(answers) != len(lines) || slices.Contains(answers, "") {
		t.Fatalf("%v, %q for %q", whole, answers, lines)
	}
	for _, at := range cuts {
		first, some := impl.BenchSay(b, lines[:at])
		last, others := impl.BenchSay(first, lines[at:])
		wantBench(t, last, whole, b, lines, at)
		if !slices.Equal(append(some, others...), answers) {
			t.Fatalf("in two parts %q %q, and at once %q", some, others, answers)
		}
		checkShown(t, first)
	}
	checkShown(t, whole)
}

func TestP41WhateverIsSaidAxiomsAreShownAsTheyAre(t *testing.T) {
	for i, b := range smallBenches(433, 60) {
		r := rand.New(rand.NewSource(int64(i + 6700)))
		many := []int{0, 1, 2, 5, 10, 20, 39, 40}[i%8]
		checkSayParts(t, b, anyLines(r, b, many), []int{0, r.Intn(many + 1), many})
	}
	// Without what takes long, at all places.
	for i, b := range benches(434) {
		r := rand.New(rand.NewSource(int64(i + 6800)))
		lines := slices.DeleteFunc(anyLines(r, b, 30), func(line string) bool {
			return line == "models" || strings.HasPrefix(line, "ask ") || strings.HasPrefix(line, "proof ")
		})
		checkSayParts(t, b, lines, countedTo(len(lines)))
	}
}

// countedTo returns the numbers from 0 up to a number.
func countedTo(last int) []int {
	var row []int
	for number := range last + 1 {
		row = append(row, number)
	}
	return row
}

// As many lines at once as there may be, and one more, whatever they are.
func TestP41SoManyLines(t *testing.T) {
	b := impl.Bench{Now: group().t}
	for _, line := range []string{"", "now", "sig 1:", "axiom  f1=f1", "back", "what", "show 1", "drop 0"} {
		checkSayParts(t, b, slices.Repeat([]string{line}, 40), countedTo(40))
		for _, lines := range [][]string{slices.Repeat([]string{line}, 41), append(slices.Repeat([]string{line}, 40), ""), append([]string{""}, slices.Repeat([]string{line}, 40)...), slices.Repeat([]string{line}, 1000)} {
			after, answers := impl.BenchSay(b, lines)
			if answers != nil {
				t.Fatalf("%q", answers)
			}
			wantBench(t, after, impl.Bench{}, lines)
		}
	}
	for _, lines := range [][]string{nil, {}} {
		after, answers := impl.BenchSay(b, lines)
		if len(answers) != 0 {
			t.Fatalf("%q", answers)
		}
		wantBench(t, after, b)
	}
	for _, b := range badBenches() {
		for _, lines := range [][]string{nil, {}, {"now"}, {"sig 1:"}, {"back"}, {"drop 0", "axioms"}, slices.Repeat([]string{"sig 1:"}, 40), slices.Repeat([]string{""}, 41)} {
			after, answers := impl.BenchSay(b, lines)
			if answers != nil {
				t.Fatalf("%q for %q and %v", answers, lines, b)
			}
			wantBench(t, after, impl.Bench{}, b, lines)
		}
	}
}

// The lines of the section 'Examples' of the document.
func TestP41Examples(t *testing.T) {
	list := []said{
		{"now", "1:000,0,00"},
		{"models", "128"},
		{"axiom 000 f0(f0(x0,x1),x2)=f0(x0,f0(x1,x2))", "ok"},
		{"axiom 0 f0(f1,x0)=x0", "ok"},
		{"axiom 0 f0(f2(x0),x0)=f1", "ok"},
		{"models", "2"},
		{"proof 0 f0(f2(x0),f0(x0,x0))=x0", "3"},
		{"ask 00 f0(x0,x1)=f0(x1,x0)", "open"},
		{"ask 0 f0(x0,x0)=x0", "no"},
		{"drop 2", "ok"},
		{"ask 00 f0(x0,x1)=f0(x1,x0)", "no"},
		{"back", "ok"},
		{"axioms", "3"},
	}
	s, ok := impl.ReadSig("1:000,0,00")
	b := impl.BenchNew(s)
	if !ok || !impl.BenchValid(b) {
		t.Fatal(s, b)
	}
	var lines, want []string
	for _, c := range list {
		lines, want = append(lines, c.line), append(want, c.answer)
	}
	after, answers := impl.BenchSay(b, lines)
	if !slices.Equal(answers, want) {
		t.Fatalf("got %q, wanted %q", answers, want)
	}
	left, first := "0 f0(f1,x0)=x0", "000 f0(f0(x0,x1),x2)=f0(x0,f0(x1,x2))"
	wantBench(t, after, impl.Bench{Now: group().t, Past: []impl.Theory{known("1:000,0,00"), known("1:000,0,00", first), known("1:000,0,00", first, left)}})
	checkSayParts(t, b, lines, countedTo(len(lines)))
}
