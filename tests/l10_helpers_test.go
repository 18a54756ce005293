package tests

import (
	"math"
	"math/rand"
	"regexp"
	"slices"
	"strconv"
	"strings"
	"testing"

	"loop.example/theorymodules/impl"
)

// benchByHand is BenchValid as the document tells it.
func benchByHand(b impl.Bench) bool {
	return theoryByHand(b.Now) && len(b.Past) <= 10 && !slices.ContainsFunc(b.Past, func(t impl.Theory) bool { return !theoryByHand(t) })
}

// namedByHand reports whether a deed has one of the four kinds, and nothing that is not named for its kind.
func namedByHand(d impl.Deed) bool {
	number, text := d.Number != 0, d.Text != ""
	return d.Kind >= 0 && d.Kind <= 1 && !number || d.Kind == 2 && !text || d.Kind == 3 && !number && !text
}

// doByHand is BenchDo as the document tells it. Axioms are told by their texts.
func doByHand(b impl.Bench, d impl.Deed) (impl.Bench, bool) {
	if !benchByHand(b) {
		return impl.Bench{}, false
	}
	now, done := b.Now, namedByHand(d)
	switch d.Kind {
	case 0:
		over, ok := impl.ReadSig(d.Text)
		now, done = impl.Theory{Over: over}, done && ok
	case 1:
		e, ok := readEqByHand(now.Over, d.Text)
		done = done && ok && !slices.Contains(textsOfAxioms(now), d.Text) && len(now.Axioms) <= 5
		now = withAxioms(now, append(slices.Clone(now.Axioms), e)...)
	case 2:
		if done = done && d.Number >= 0 && d.Number < len(now.Axioms); done {
			now = without(now, d.Number)
		}
	case 3:
		many := len(b.Past)
		if done && many > 0 {
			return impl.Bench{Now: b.Past[many-1], Past: b.Past[:many-1]}, true
		}
		return b, false
	}
	if !done {
		return b, false
	}
	past := append(slices.Clone(b.Past), b.Now)
	return impl.Bench{Now: now, Past: past[max(len(past), 10)-10:]}, true
}

// textsOfAxioms returns the texts of the axioms of a theory.
func textsOfAxioms(t impl.Theory) []string {
	var texts []string
	for _, e := range t.Axioms {
		texts = append(texts, eqTextByHand(t.Over, e))
	}
	return texts
}

// runByHand is BenchRun as the document tells it.
func runByHand(b impl.Bench, list []impl.Deed) (impl.Bench, int) {
	if !benchByHand(b) || len(list) > 40 {
		return impl.Bench{}, 0
	}
	many := 0
	for _, d := range list {
		after, done := doByHand(b, d)
		if done {
			b, many = after, many+1
		}
	}
	return b, many
}

// textOfDeed tells all texts of deeds, and no others, with what they name.
var textOfDeed = regexp.MustCompile(`\A(?:sig ([ -~]+)|axiom ([ -~]+)|drop ([0-9])|back)\z`)

// deedByHand is ReadDeed as the document tells it.
func deedByHand(text string) (impl.Deed, bool) {
	found := textOfDeed.FindStringSubmatch(text)
	switch {
	case found == nil:
		return impl.Deed{}, false
	case found[1] != "":
		return impl.Deed{Kind: 0, Text: found[1]}, true
	case found[2] != "":
		return impl.Deed{Kind: 1, Text: found[2]}, true
	case found[3] != "":
		return impl.Deed{Kind: 2, Number: strings.Index("0123456789", found[3])}, true
	}
	return impl.Deed{Kind: 3}, true
}

// deedTextByHand is DeedText as the document tells it.
func deedTextByHand(d impl.Deed) string {
	for _, text := range []string{"sig " + d.Text, "axiom " + d.Text, "drop " + strconv.Itoa(d.Number), "back"} {
		if read, ok := deedByHand(text); ok && read == d {
			return text
		}
	}
	return ""
}

// journalByHand is JournalText as the document tells it.
func journalByHand(list []impl.Deed) string {
	text := ""
	for _, d := range list {
		if deedTextByHand(d) == "" {
			return ""
		}
		text += deedTextByHand(d) + "\n"
	}
	return text
}

// linesOfDeeds tells all lines of deeds with which a text begins.
var linesOfDeeds = regexp.MustCompile(`\A(?:(?:sig [ -~]+|axiom [ -~]+|drop [0-9]|back)\n)*`)

// readJournalByHand is ReadJournal as the document tells it.
func readJournalByHand(text string) ([]impl.Deed, int) {
	var list []impl.Deed
	lines := linesOfDeeds.FindString(text)
	for line := range strings.Lines(lines) {
		d, _ := deedByHand(strings.TrimSuffix(line, "\n"))
		list = append(list, d)
	}
	return list, len(lines)
}

// question tells all lines that ask about something that is named behind a word.
var question = regexp.MustCompile(`(?s)\A(ask|proof|show) (.*)\z`)

// answerByHand returns the answer to a line that is no deed, as the document tells it.
func answerByHand(b impl.Bench, line string) string {
	about := question.FindStringSubmatch(line)
	switch {
	case line == "now":
		return impl.SigText(b.Now.Over)
	case line == "axioms":
		return strconv.Itoa(len(b.Now.Axioms))
	case line == "past":
		return strconv.Itoa(len(b.Past))
	case line == "models":
		return strconv.Itoa(len(modelsByHand(b.Now, []int{2, 2, 2}[:b.Now.Over.Sorts])))
	case about == nil:
		return "what"
	case about[1] == "show":
		for k, text := range textsOfAxioms(b.Now) {
			if about[2] == "012345"[k:k+1] {
				return text
			}
		}
		return "what"
	}
	e, ok := readEqByHand(b.Now.Over, about[2])
	if !ok {
		return "what"
	}
	if about[1] == "ask" {
		return []string{"no", "yes", "open"}[decidedByHand(b.Now, e)]
	}
	steps, ok := findByHand(b.Now, e)
	if !ok {
		return "none"
	}
	return strconv.Itoa(len(steps))
}

// lineByHand is BenchLine as the document tells it.
func lineByHand(b impl.Bench, line string) (impl.Bench, string) {
	if !benchByHand(b) {
		return impl.Bench{}, ""
	}
	d, ok := deedByHand(line)
	if !ok {
		return b, answerByHand(b, line)
	}
	after, done := doByHand(b, d)
	if !done {
		return b, "no"
	}
	return after, "ok"
}

// sayByHand is BenchSay as the document tells it.
func sayByHand(b impl.Bench, lines []string) (impl.Bench, []string) {
	if !benchByHand(b) || len(lines) > 40 {
		return impl.Bench{}, nil
	}
	var answers []string
	for _, line := range lines {
		answer := ""
		b, answer = lineByHand(b, line)
		answers = append(answers, answer)
	}
	return b, answers
}

func sameBench(a, b impl.Bench) bool {
	return sameTheory(a.Now, b.Now) && slices.EqualFunc(a.Past, b.Past, sameTheory)
}

// wantBench fails if a bench is not the one that is wanted.
func wantBench(t *testing.T, got, want impl.Bench, about ...any) {
	t.Helper()
	if !sameBench(got, want) {
		t.Fatal("got", got, "wanted", want, "for", about)
	}
}

// checkDo compares a bench after a deed with what the document tells, and returns it.
func checkDo(t *testing.T, b impl.Bench, d impl.Deed) (impl.Bench, bool) {
	t.Helper()
	want, wantDone := doByHand(b, d)
	got, done := impl.BenchDo(b, d)
	if done != wantDone {
		t.Fatal("got", done, "wanted", wantDone, "for", b, d)
	}
	wantBench(t, got, want, b, d)
	return got, done
}

// checkDeeds compares a bench after some deeds with what the document tells, and returns it, and how many were done.
func checkDeeds(t *testing.T, b impl.Bench, list []impl.Deed) (impl.Bench, int) {
	t.Helper()
	want, wantMany := runByHand(b, list)
	got, many := impl.BenchRun(b, list)
	if many != wantMany {
		t.Fatal("got", many, "wanted", wantMany, "for", b, list)
	}
	wantBench(t, got, want, b, list)
	return got, many
}

// checkLine compares a bench after a line, and the answer, with what the document tells, and returns them.
func checkLine(t *testing.T, b impl.Bench, line string) (impl.Bench, string) {
	t.Helper()
	want, wantAnswer := lineByHand(b, line)
	got, answer := impl.BenchLine(b, line)
	if answer != wantAnswer {
		t.Fatalf("got %q, wanted %q for %q and %v", answer, wantAnswer, line, b)
	}
	wantBench(t, got, want, b, line)
	return got, answer
}

// checkSay compares a bench after some lines, and the answers, with what the document tells, and returns them.
func checkSay(t *testing.T, b impl.Bench, lines []string) (impl.Bench, []string) {
	t.Helper()
	want, wantAnswers := sayByHand(b, lines)
	got, answers := impl.BenchSay(b, lines)
	if !slices.Equal(answers, wantAnswers) {
		t.Fatalf("got %q, wanted %q for %q and %v", answers, wantAnswers, lines, b)
	}
	wantBench(t, got, want, b, lines)
	return got, answers
}

// checkDeedText compares the text of a deed with what the document tells, and returns it.
func checkDeedText(t *testing.T, d impl.Deed) string {
	t.Helper()
	text, want := impl.DeedText(d), deedTextByHand(d)
	if text != want {
		t.Fatalf("got %q, wanted %q for %+v", text, want, d)
	}
	return text
}

// checkReadDeed compares the deed of a text with what the document tells, and reports whether there is one.
func checkReadDeed(t *testing.T, text string) bool {
	t.Helper()
	want, wantOk := deedByHand(text)
	d, ok := impl.ReadDeed(text)
	if d != want || ok != wantOk {
		t.Fatalf("got %+v %v, wanted %+v %v for %q", d, ok, want, wantOk, text)
	}
	return ok
}

// checkReadJournal compares the deeds with which a text begins with what the document tells, and returns them, and how many bytes they have.
func checkReadJournal(t *testing.T, text string) ([]impl.Deed, int) {
	t.Helper()
	want, wantLength := readJournalByHand(text)
	list, length := impl.ReadJournal(text)
	if !slices.Equal(list, want) || length != wantLength {
		t.Fatalf("got %+v %v, wanted %+v %v for %q", list, length, want, wantLength, text)
	}
	return list, length
}

// pasts returns so many theories out of a list, by chance.
func pasts(r *rand.Rand, theories []impl.Theory, many int) []impl.Theory {
	var list []impl.Theory
	for range many {
		list = append(list, theories[r.Intn(len(theories))])
	}
	return list
}

// benches returns benches over theories of all kinds, each number of theories of before that there may be among them.
func benches(seed int64) []impl.Bench {
	r := rand.New(rand.NewSource(seed))
	theories := append(smallTheories(seed, 50), worldTheories()...)
	var list []impl.Bench
	for i, theory := range theories {
		list = append(list, impl.Bench{Now: theory, Past: pasts(r, theories, i%11)})
	}
	return list
}

// badBenches returns benches that are not valid, each for one reason alone where that can be.
func badBenches() []impl.Bench {
	good := group().t
	list := []impl.Bench{{}, {Past: []impl.Theory{good}}, {Now: good, Past: slices.Repeat([]impl.Theory{good}, 11)}, {Now: good, Past: make([]impl.Theory, 1)}, {Now: good, Past: make([]impl.Theory, 1000000)}}
	for i, bad := range badTheories() {
		past := slices.Repeat([]impl.Theory{good}, 1+i%10)
		past[i%len(past)] = bad
		list = append(list, impl.Bench{Now: bad}, impl.Bench{Now: good, Past: past}, impl.Bench{Now: bad, Past: slices.Repeat([]impl.Theory{good}, i%11)})
	}
	return list
}

// anyEqText returns the text of an equation for a theory, by chance: of an axiom, of one with its sides exchanged, or of any.
func anyEqText(r *rand.Rand, theory impl.Theory) string {
	if many := len(theory.Axioms); many > 0 && r.Intn(4) == 0 {
		e := theory.Axioms[r.Intn(many)]
		if r.Intn(2) == 0 {
			e = turned(e)
		}
		return eqTextByHand(theory.Over, e)
	}
	c := setting{theory.Over, randomVars(r, theory.Over.Sorts)}
	list := c.pool(r.Int63(), 8)
	for range 10 * min(1, len(list)) {
		e := impl.Eq{Vars: c.vars, Left: list[r.Intn(len(list))], Right: list[r.Intn(len(list))]}
		if len(e.Left) <= 8 && len(e.Right) <= 8 && eqByHand(c.s, e) {
			return eqTextByHand(c.s, e)
		}
	}
	return "0 x0=x0"
}

// anySigText returns the text of a signature, by chance.
func anySigText(r *rand.Rand) string {
	sorts := 1 + r.Intn(3)
	return impl.SigText(randomSig(r, rowsOver(sorts), sorts, r.Intn(5)))
}

// anyDeed returns a deed for a valid bench, by chance: most of them can be done.
func anyDeed(r *rand.Rand, b impl.Bench) impl.Deed {
	switch r.Intn(9) {
	case 0:
		return impl.Deed{Kind: impl.BnSig, Text: anySigText(r)}
	case 1, 2, 3, 4:
		return impl.Deed{Kind: impl.BnAxiom, Text: anyEqText(r, b.Now)}
	case 5, 6:
		return impl.Deed{Kind: impl.BnDrop, Number: r.Intn(len(b.Now.Axioms) + 1)}
	}
	return impl.Deed{Kind: impl.BnBack}
}

// wrongDeeds returns deeds that cannot be done whatever the bench is, by what is named for their kind, by what is not, or by their kind.
func wrongDeeds() []impl.Deed {
	list := []impl.Deed{
		{Kind: impl.BnSig}, {Kind: impl.BnAxiom}, {Kind: impl.BnSig, Text: " "}, {Kind: impl.BnAxiom, Text: " "},
		{Kind: impl.BnSig, Text: "1"}, {Kind: impl.BnSig, Text: "0:"}, {Kind: impl.BnSig, Text: "4:"}, {Kind: impl.BnSig, Text: "1:01"}, {Kind: impl.BnSig, Text: "1:0\n"}, {Kind: impl.BnSig, Text: " 1:0"}, {Kind: impl.BnSig, Text: "1:0,0,0,0,0,0,0"}, {Kind: impl.BnSig, Text: "0 x0=x0"}, {Kind: impl.BnSig, Text: "sig 1:"},
		{Kind: impl.BnAxiom, Text: "0 x0"}, {Kind: impl.BnAxiom, Text: "0 x0=x1"}, {Kind: impl.BnAxiom, Text: "0 x0=x0="}, {Kind: impl.BnAxiom, Text: "0 x0=x0\n"}, {Kind: impl.BnAxiom, Text: "3 x0=x0"}, {Kind: impl.BnAxiom, Text: "00000 x0=x0"}, {Kind: impl.BnAxiom, Text: "1:0"}, {Kind: impl.BnAxiom, Text: "axiom 0 x0=x0"},
		{Kind: impl.BnSig, Text: strings.Repeat("1:0,", 1000)}, {Kind: impl.BnAxiom, Text: strings.Repeat("0", 10000) + " x0=x0"}, {Kind: impl.BnAxiom, Text: "0 x0=\xff"},
		{Kind: impl.BnDrop, Text: "0"}, {Kind: impl.BnDrop, Text: "0 x0=x0"}, {Kind: impl.BnDrop, Text: " "}, {Kind: impl.BnDrop, Text: "\x00"},
		{Kind: impl.BnBack, Text: "back"}, {Kind: impl.BnBack, Text: " "}, {Kind: impl.BnBack, Text: "\x00"}, {Kind: impl.BnBack, Number: 1, Text: "1:0"},
	}
	for _, number := range []int{-1, 1, 9, 10, math.MaxInt, math.MinInt} {
		list = append(list, impl.Deed{Kind: impl.BnSig, Number: number, Text: "1:0"}, impl.Deed{Kind: impl.BnAxiom, Number: number, Text: "0 x0=x0"}, impl.Deed{Kind: impl.BnBack, Number: number})
	}
	for _, number := range []int{-1, -2, 6, 7, 9, 10, 100, math.MaxInt, math.MinInt} {
		list = append(list, impl.Deed{Kind: impl.BnDrop, Number: number}, impl.Deed{Kind: impl.BnDrop, Number: number, Text: "x"})
	}
	for _, kind := range []int{-1, -2, 4, 5, 100, math.MaxInt, math.MinInt} {
		list = append(list, impl.Deed{Kind: kind}, impl.Deed{Kind: kind, Text: "1:0"}, impl.Deed{Kind: kind, Text: "0 x0=x0"}, impl.Deed{Kind: kind, Number: 1}, impl.Deed{Kind: kind, Text: "2:", Number: 1})
	}
	return list
}

// anyDeeds returns so many deeds, one after the other, for a valid bench, by chance: some of them cannot be done.
func anyDeeds(r *rand.Rand, b impl.Bench, many int) []impl.Deed {
	wrong := wrongDeeds()
	var list []impl.Deed
	for range many {
		d := anyDeed(r, b)
		if r.Intn(8) == 0 {
			d = wrong[r.Intn(len(wrong))]
		}
		b, _ = doByHand(b, d)
		list = append(list, d)
	}
	return list
}

// deedsWithTexts returns deeds by chance, each of which has a text.
func deedsWithTexts(r *rand.Rand, b impl.Bench, many int) []impl.Deed {
	return slices.DeleteFunc(anyDeeds(r, b, many), func(d impl.Deed) bool { return deedTextByHand(d) == "" })
}
