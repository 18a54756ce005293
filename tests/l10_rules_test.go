package tests

import (
	"math"
	"math/rand"
	"slices"
	"strings"
	"testing"

	"loop.example/theorymodules/impl"
)

// benchArgs are arguments of the functions of the chapter: a signature, a bench, deeds and lines.
type benchArgs struct {
	S     impl.Sig
	B     impl.Bench
	Deeds []impl.Deed
	Lines []string
}

// benchArgsFor returns arguments that fit each other, for a valid bench.
func benchArgsFor(r *rand.Rand, b impl.Bench, many int) benchArgs {
	return benchArgs{b.Now.Over, b, anyDeeds(r, b, many), anyLines(r, b, many)}
}

// anyTextOf returns a text with something changed, or any bytes.
func anyTextOf(r *rand.Rand, text string) string {
	at, other := r.Intn(len(text)+1), string([]byte{byte(r.Intn(256))})
	switch r.Intn(6) {
	case 0:
		return text[:at]
	case 1:
		return text[at:]
	case 2:
		return text[:at] + other + text[at:]
	case 3:
		return strings.ToUpper(text)
	case 4:
		return text + text
	}
	return other + other
}

// anyTheoryOf returns a theory with something changed, which need not be ok.
func anyTheoryOf(r *rand.Rand, theory impl.Theory) impl.Theory {
	w := world{setting{theory.Over, randomVars(r, theory.Over.Sorts)}, theory}
	switch r.Intn(4) {
	case 0:
		bad := badTheories()
		return bad[r.Intn(len(bad))]
	case 1:
		theory.Axioms = append(slices.Clone(theory.Axioms), slices.Repeat([]impl.Eq{{Vars: anyRow(r), Left: anyRow(r), Right: anyRow(r)}}, r.Intn(3))...)
		return theory
	}
	return anyAxioms(r, w, w.pool(r.Int63(), 5))
}

// changed returns arguments of which some need not fit, by chance.
func (a benchArgs) changed(r *rand.Rand) benchArgs {
	numbers := []int{-1, 0, 1, 2, 3, 4, 5, 6, 9, 10, math.MaxInt, math.MinInt}
	a.Deeds, a.Lines = slices.Clone(a.Deeds), slices.Clone(a.Lines)
	switch r.Intn(7) {
	case 0:
		a.B.Now = anyTheoryOf(r, a.B.Now)
	case 1:
		a.B.Past = slices.Clone(a.B.Past)
		for i, theory := range a.B.Past {
			if r.Intn(8) == 0 {
				a.B.Past[i] = anyTheoryOf(r, theory)
			}
		}
	case 2:
		a.B.Past = append(slices.Clone(a.B.Past), slices.Repeat([]impl.Theory{a.B.Now}, 9+r.Intn(3)-len(a.B.Past)%10)...)
	case 3:
		a.S = anySig(r, a.S)
	case 4:
		more := 42 - len(a.Deeds)
		a.Deeds = append(a.Deeds, slices.Repeat([]impl.Deed{{Kind: impl.BnBack}}, r.Intn(more))...)
		a.Lines = append(a.Lines, slices.Repeat([]string{"back"}, r.Intn(more))...)
	}
	for i := range a.Deeds {
		d := &a.Deeds[i]
		switch r.Intn(12) {
		case 0:
			d.Kind = numbers[r.Intn(len(numbers))]
		case 1:
			d.Number = numbers[r.Intn(len(numbers))]
		case 2:
			d.Text = anyTextOf(r, d.Text)
		}
	}
	for i, line := range a.Lines {
		if r.Intn(5) == 0 {
			a.Lines[i] = anyTextOf(r, line)
		}
	}
	return a
}

// Whatever the arguments are, the results are those that the document tells, and nothing panics.
func TestBenchesOfAnyArguments(t *testing.T) {
	r := rand.New(rand.NewSource(440))
	valid := map[bool]int{}
	for i, b := range append(smallBenches(441, 60), benches(442)...) {
		a := benchArgsFor(r, b, i%6)
		a.check(t)
		for range 6 {
			a := a.changed(r)
			a.check(t)
			valid[benchByHand(a.B)]++
		}
	}
	benchArgs{}.check(t)
	benchArgs{Deeds: make([]impl.Deed, 1), Lines: make([]string, 1)}.check(t)
	wantSeen(t, valid, 2, 100)
}

// check compares what all functions of the chapter return with what the document tells.
func (a benchArgs) check(t *testing.T) {
	t.Helper()
	if impl.BenchValid(a.B) != benchByHand(a.B) {
		t.Fatal("valid", a.B)
	}
	fresh := impl.Bench{}
	if impl.SigValid(a.S) {
		fresh.Now.Over = a.S
	}
	wantBench(t, impl.BenchNew(a.S), fresh, a.S)
	for _, d := range a.Deeds {
		checkDo(t, a.B, d)
		checkOfDeed(t, d)
		checkLine(t, a.B, deedTextByHand(d))
	}
	for _, line := range a.Lines {
		checkOfText(t, line)
	}
	checkDeeds(t, a.B, a.Deeds)
	checkSay(t, a.B, a.Lines)
	checkWhole(t, a.Deeds)
	checkFirst(t, strings.Join(a.Lines, "\n"))
}

// results returns what the functions of the chapter return for some arguments.
func (a benchArgs) results() []any {
	impl.BenchValid(a.B)
	ran, _ := impl.BenchRun(a.B, a.Deeds)
	still, _ := impl.BenchRun(a.B, nil)
	silent, none := impl.BenchSay(a.B, nil)
	last, answers := impl.BenchSay(a.B, a.Lines)
	read, _ := impl.ReadJournal(impl.JournalText(a.Deeds))
	list := []any{impl.BenchNew(a.S), ran, still, silent, none, last, answers, read}
	for _, d := range a.Deeds {
		impl.ReadDeed(impl.DeedText(d))
		after, _ := impl.BenchDo(a.B, d)
		list = append(list, after)
	}
	for _, line := range a.Lines {
		after, _ := impl.BenchLine(a.B, line)
		list = append(list, after)
	}
	return list
}

// eachDeed returns a deed of each kind that can be done, some that cannot, and lines of all kinds but those that take long, for a bench.
func eachDeed(r *rand.Rand, b impl.Bench) ([]impl.Deed, []string) {
	deeds := []impl.Deed{{Kind: impl.BnSig, Text: anySigText(r)}, {Kind: impl.BnAxiom, Text: anyEqText(r, b.Now)}, {Kind: impl.BnDrop, Number: len(b.Now.Axioms) / 2}, {Kind: impl.BnBack}, {Kind: impl.BnSig}, {Kind: impl.BnAxiom}, {Kind: impl.BnDrop, Number: 6}, {Kind: impl.BnBack, Number: 1}, {Kind: 4}}
	lines := []string{"now", "axioms", "past", "show 0", "what", "proof " + anyEqText(r, b.Now)}
	for _, d := range deeds[:4] {
		lines = append(lines, deedTextByHand(d))
	}
	return deeds, append(lines, "drop 9", "sig none")
}

// No argument is written to, and no result shares memory with an argument or with another result: the theories of a bench, their axioms and the rows in them are apart, too, also of a bench that comes back unchanged.
func TestBenchesShareNoMemory(t *testing.T) {
	r := rand.New(rand.NewSource(443))
	for i, b := range append(smallBenches(444, 40), benches(445)...) {
		a := benchArgsFor(r, b, i%6)
		checkApart(t, a)
		checkApart(t, a.changed(r))
		a.Deeds, a.Lines = eachDeed(r, b)
		checkApart(t, a)
		a.Deeds, a.Lines = []impl.Deed{{Kind: impl.BnBack}, {Kind: impl.BnBack}}, []string{"back", "back"}
		checkApart(t, a)
	}
	for i, b := range badBenches() {
		if len(b.Past) < 100 {
			checkApart(t, benchArgs{invalidSigs()[i%len(invalidSigs())], b, []impl.Deed{{Kind: impl.BnBack}, {Kind: impl.BnSig, Text: "1:"}}, []string{"now", "back"}})
		}
	}
}

// Arguments that share memory with each other lead to results that do not: theories that are one, axioms of one row, and operations that are parts of one.
func TestBenchesOfSharedArguments(t *testing.T) {
	row := []int{0, 0, 0}
	side := []int{0, 100, 100}
	e := impl.Eq{Vars: row[:1], Left: side, Right: side[1:2]}
	turn := impl.Eq{Vars: row[:1], Left: side[1:2], Right: side}
	theory := impl.Theory{Over: impl.Sig{Sorts: 1, Ops: [][]int{row, row[:1], row[:2]}}, Axioms: []impl.Eq{e, turn, e}}
	b := impl.Bench{Now: theory, Past: slices.Repeat([]impl.Theory{theory}, 10)}
	if !impl.BenchValid(b) {
		t.Fatal("not valid", b)
	}
	results := []any{impl.BenchNew(theory.Over), impl.BenchNew(theory.Over)}
	want := known("1:000,0,00", "0 f0(x0,x0)=x0", "0 x0=f0(x0,x0)", "0 f0(x0,x0)=x0")
	ten := slices.Repeat([]impl.Theory{want}, 10)
	var got []impl.Bench
	for _, c := range []struct {
		deed impl.Deed
		want impl.Bench
	}{
		{impl.Deed{Kind: impl.BnDrop, Number: 1}, impl.Bench{Now: withAxioms(want, want.Axioms[0], want.Axioms[2]), Past: ten}},
		{impl.Deed{Kind: impl.BnAxiom, Text: "0 f2(x0)=x0"}, impl.Bench{Now: withAxioms(want, append(slices.Clone(want.Axioms), eqOf(want.Over, "0 f2(x0)=x0"))...), Past: ten}},
		{impl.Deed{Kind: impl.BnSig, Text: "3:"}, impl.Bench{Now: known("3:"), Past: ten}},
		{impl.Deed{Kind: impl.BnBack}, impl.Bench{Now: want, Past: ten[:9]}},
		{impl.Deed{Kind: impl.BnAxiom, Text: "0 f0(x0,x0)=x0"}, impl.Bench{Now: want, Past: ten}},
	} {
		done, _ := impl.BenchDo(b, c.deed)
		ran, _ := impl.BenchRun(b, []impl.Deed{c.deed})
		line, _ := impl.BenchLine(b, impl.DeedText(c.deed))
		say, _ := impl.BenchSay(b, []string{impl.DeedText(c.deed)})
		for _, after := range []impl.Bench{done, ran, line, say} {
			wantBench(t, after, c.want, c.deed)
			results, got = append(results, after), append(got, after)
		}
		checkDo(t, impl.Bench{Now: want, Past: ten}, c.deed)
	}
	apart(t, append(results, row, side, theory.Over.Ops[:0], theory.Axioms[:0], b.Past[:0]))
	scribbleRow(row)
	scribbleRow(side)
	for _, after := range got {
		if !benchByHand(after) {
			t.Fatal("changed", after)
		}
	}
}
