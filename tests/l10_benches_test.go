package tests

import (
	"math"
	"math/rand"
	"slices"
	"testing"

	"loop.example/theorymodules/impl"
)

// The table of constants of the document.
func TestConstantsOfBenches(t *testing.T) {
	if impl.BnSig != 0 || impl.BnAxiom != 1 || impl.BnDrop != 2 || impl.BnBack != 3 || impl.MaxPast != 10 || impl.MaxLines != 40 {
		t.Fatal(impl.BnSig, impl.BnAxiom, impl.BnDrop, impl.BnBack, impl.MaxPast, impl.MaxLines)
	}
}

func TestP73BenchesCanForget(t *testing.T) {
	for _, b := range benches(400) {
		if !impl.BenchValid(b) || !impl.BenchValid(impl.Bench{Now: b.Now}) || !impl.BenchValid(impl.Bench{Now: b.Now, Past: []impl.Theory{}}) {
			t.Fatal("refused", b)
		}
		for many := range 14 {
			past := slices.Repeat([]impl.Theory{b.Now}, many)
			if impl.BenchValid(impl.Bench{Now: b.Now, Past: past}) != (many <= 10) {
				t.Fatal("so many theories of before", many, b)
			}
		}
	}
	for _, b := range badBenches() {
		if impl.BenchValid(b) {
			t.Fatal("taken", b)
		}
	}
}

// What is no theory is found at each place, whatever the other places have.
func TestP73EachTheoryIsAskedFor(t *testing.T) {
	good := []impl.Theory{group().t, known("1:"), known("2:010,01,1", "01 f0(x0,x1)=x0"), known("3:")}
	for i, bad := range badTheories() {
		for many := range 11 {
			b := impl.Bench{Now: good[i%4]}
			for k := range many {
				b.Past = append(b.Past, good[(i+k)%4])
			}
			if !impl.BenchValid(b) {
				t.Fatal("refused", b)
			}
			for at := range b.Past {
				other := slices.Clone(b.Past)
				other[at] = bad
				if impl.BenchValid(impl.Bench{Now: b.Now, Past: other}) {
					t.Fatal("taken", b.Now, other)
				}
			}
			if impl.BenchValid(impl.Bench{Now: bad, Past: b.Past}) {
				t.Fatal("taken", bad, b.Past)
			}
		}
	}
}

func TestP74NewBenchesHaveNoAxioms(t *testing.T) {
	r := rand.New(rand.NewSource(401))
	for _, s := range validSigs() {
		b := impl.BenchNew(s)
		if !impl.BenchValid(b) || !sameSig(b.Now.Over, s) || len(b.Now.Axioms) != 0 || len(b.Past) != 0 {
			t.Fatal(s, b)
		}
		for _, m := range append(fewModels(s, 60), someModels(r, s, 3)...) {
			if !impl.ModelOk(s, m) || !impl.IsModel(b.Now, m) {
				t.Fatal("no model", s, m)
			}
		}
		for _, m := range badModels(s, oneValue(s)) {
			if impl.ModelOk(s, m) || impl.IsModel(b.Now, m) {
				t.Fatal("a model", s, m)
			}
		}
	}
	for _, s := range append(invalidSigs(), impl.Sig{}) {
		wantBench(t, impl.BenchNew(s), impl.Bench{}, s)
	}
}

// checkDone looks whether a deed leads to a valid bench from which BnBack leads back, and, if it is BnAxiom, to one in which the equation is proved in one step, if it can be done; and whether it changes nothing otherwise. It returns the bench, and whether it could be done.
func checkDone(t *testing.T, b impl.Bench, d impl.Deed) (impl.Bench, bool) {
	t.Helper()
	after, done := checkDo(t, b, d)
	if !impl.BenchValid(after) {
		t.Fatal("not valid", b, d, after)
	}
	if !done {
		wantBench(t, after, b, d)
		return after, false
	}
	if d.Kind == impl.BnBack {
		return after, true
	}
	back, ok := impl.BenchDo(after, impl.Deed{Kind: impl.BnBack})
	if !ok {
		t.Fatal("not put back", b, d)
	}
	if len(b.Past) < 10 {
		wantBench(t, back, b, d)
	} else {
		wantBench(t, back, impl.Bench{Now: b.Now, Past: b.Past[1:]}, b, d)
	}
	if d.Kind == impl.BnAxiom {
		k := len(after.Now.Axioms) - 1
		e := eqOf(b.Now.Over, d.Text)
		if !impl.ProofOk(after.Now, e, []impl.Step{stepAt(k, false, 0, setting{after.Now.Over, e.Vars}.letters()...)}) {
			t.Fatal("not proved in one step", b, d)
		}
		if !sameEq(after.Now.Axioms[k], e) {
			t.Fatal("not behind all", b, d)
		}
	}
	return after, true
}

func TestP38WhatWasDoneCanBeUndone(t *testing.T) {
	type sight struct {
		kind int
		full bool
		done bool
	}
	seen := map[sight]int{}
	wrong := wrongDeeds()
	for i, b := range benches(402) {
		r := rand.New(rand.NewSource(int64(i + 6000)))
		for range 30 {
			d := anyDeed(r, b)
			after, done := checkDone(t, b, d)
			if d.Kind != impl.BnSig || done {
				seen[sight{d.Kind, len(b.Past) == 10, done}]++
			}
			if r.Intn(3) > 0 || len(b.Past) == 10 && r.Intn(3) > 0 {
				b = after
			}
			if d := wrong[r.Intn(len(wrong))]; done {
				if _, done := checkDone(t, b, d); done {
					t.Fatal("done", b, d)
				}
			}
		}
		for range len(b.Past) + 1 {
			after, done := checkDone(t, b, impl.Deed{Kind: impl.BnBack})
			seen[sight{impl.BnBack, len(b.Past) == 10, done}]++
			b = after
		}
		if len(b.Past) > 0 {
			t.Fatal("not all was put back", b)
		}
	}
	// With a full past there is always one to be put back.
	wantSeen(t, seen, 2+4+4+3, 30)
}

// What cannot be done for any bench changes nothing.
func TestP38WhatCannotBeDoneChangesNothing(t *testing.T) {
	list := []impl.Bench{{Now: known("1:")}, {Now: known("1:0,00", "0 f1(x0)=x0", " f0=f1(f0)")}, {Now: known("3:"), Past: slices.Repeat([]impl.Theory{group().t}, 10)}, {Now: group().t, Past: []impl.Theory{known("2:")}}}
	for _, b := range append(list, benches(403)[:30]...) {
		for _, d := range wrongDeeds() {
			if _, done := checkDone(t, b, d); done {
				t.Fatal("done", b, d)
			}
		}
	}
	for _, b := range badBenches() {
		for _, d := range append(wrongDeeds(), impl.Deed{Kind: impl.BnSig, Text: "1:"}, impl.Deed{Kind: impl.BnAxiom, Text: "0 x0=x0"}, impl.Deed{Kind: impl.BnAxiom, Text: "0 f0(f1,x0)=x0"}, impl.Deed{Kind: impl.BnDrop}, impl.Deed{Kind: impl.BnBack}) {
			after, done := impl.BenchDo(b, d)
			if done {
				t.Fatal("done", b, d)
			}
			wantBench(t, after, impl.Bench{}, b, d)
		}
	}
}

// doneCase is a deed, and the text of the signature and those of the axioms behind it, none if it cannot be done.
type doneCase struct {
	deed   impl.Deed
	sig    string
	axioms []string
}

// checkDoneCases compares what is behind deeds, for theories of before of all numbers.
func checkDoneCases(t *testing.T, theory impl.Theory, list []doneCase) {
	t.Helper()
	for _, c := range list {
		for _, many := range []int{0, 1, 9, 10} {
			b := impl.Bench{Now: theory}
			for k := range many {
				b.Past = append(b.Past, known("2:01", slices.Repeat([]string{"0 x0=x0"}, k%7)...))
			}
			after, done := checkDone(t, b, c.deed)
			if done != (c.sig != "") {
				t.Fatal(c, many, after, done)
			}
			if !done {
				continue
			}
			want := impl.Bench{Now: known(c.sig, c.axioms...), Past: append(slices.Clone(b.Past), theory)}
			if many == 10 {
				want.Past = want.Past[1:]
			}
			wantBench(t, after, want, c, many)
		}
	}
}

func TestDeedsThatSetASignature(t *testing.T) {
	sets := func(text, sig string) doneCase {
		return doneCase{impl.Deed{Kind: impl.BnSig, Text: text}, sig, nil}
	}
	for _, theory := range []impl.Theory{known("1:"), known("1:00,0", "0 f0(x0)=x0"), group().t} {
		checkDoneCases(t, theory, []doneCase{
			sets("1:", "1:"), sets("3:", "3:"), sets("1:00,0", "1:00,0"), sets("1:000,0,00", "1:000,0,00"), sets("2:000,01,1", "2:000,01,1"), sets("3:222,222,222,222,222,222", "3:222,222,222,222,222,222"),
			sets("", ""), sets("1", ""), sets("1:,", ""), sets("1:1", ""), sets("1:0000", ""), sets("0:", ""), sets("4:", ""), sets(" 1:", ""), sets("1: ", ""), sets("1:\n", ""), sets("1:0,0,0,0,0,0,0", ""), sets("0 x0=x0", ""),
		})
	}
}

func TestDeedsThatAddAnAxiom(t *testing.T) {
	left, right, turn := "0 f0(f1,x0)=x0", "0 f0(x0,f1)=x0", "00 f0(x0,x1)=f0(x1,x0)"
	const sig = "1:000,0"
	adds := func(text string, axioms ...string) doneCase {
		return doneCase{impl.Deed{Kind: impl.BnAxiom, Text: text}, sig, axioms}
	}
	no := func(text string) doneCase {
		return doneCase{impl.Deed{Kind: impl.BnAxiom, Text: text}, "", nil}
	}
	checkDoneCases(t, known(sig), []doneCase{
		adds(left, left), adds(turn, turn), adds("0 x0=x0", "0 x0=x0"), adds(" f1=f1", " f1=f1"), adds("0000 x3=f0(x1,x2)", "0000 x3=f0(x1,x2)"),
		no(""), no(" "), no("f1=f1"), no("  f1=f1"), no(left + " "), no(" " + left), no(left + "\n"), no("0 f0(x0,f1)"), no("0 x0=x1"), no("1 x0=x0"), no("00000 x0=x0"), no(sig),
		// Of another signature.
		no("0 f2(x0)=x0"), no("0 f0(x0)=x0"), no("01 x0=x0"), no(" f0=f0"),
	})
	// It is there already, as the first one, in the middle, as the last one; the sides exchanged, other letters or one more make another one.
	checkDoneCases(t, known(sig, left, right, turn), []doneCase{
		no(left), no(right), no(turn),
		adds("0 x0=f0(f1,x0)", left, right, turn, "0 x0=f0(f1,x0)"),
		adds("00 f0(x1,x0)=f0(x0,x1)", left, right, turn, "00 f0(x1,x0)=f0(x0,x1)"),
		adds("00 f0(f1,x0)=x0", left, right, turn, "00 f0(f1,x0)=x0"),
		adds("00 f0(f1,x1)=x1", left, right, turn, "00 f0(f1,x1)=x1"),
		adds("0 f0(f1,x0)=f1", left, right, turn, "0 f0(f1,x0)=f1"),
		adds("0 f0(f1,f1)=x0", left, right, turn, "0 f0(f1,f1)=x0"),
	})
	// One fewer than there may be, and as many.
	five := []string{"0 x0=x0", "00 x0=x0", "000 x0=x0", "0000 x0=x0", left}
	six := append(slices.Clone(five), right)
	checkDoneCases(t, known(sig, five...), []doneCase{adds(right, six...), adds(turn, append(slices.Clone(five), turn)...), no(left), no("0 x0=x0"), no("0000 x0=x0")})
	checkDoneCases(t, known(sig, six...), []doneCase{no(turn), no(left), no(right), no("0 x0=x0"), no("00 x1=x0")})
	// An axiom that stands there twice.
	checkDoneCases(t, known(sig, left, left), []doneCase{no(left), adds(right, left, left, right)})
	// Sorts that are exchanged.
	checkDoneCases(t, known("2:", "01 x0=x0"), []doneCase{no("01 x0=x0"), no("01 x0=x1"), {impl.Deed{Kind: impl.BnAxiom, Text: "10 x0=x0"}, "2:", []string{"01 x0=x0", "10 x0=x0"}}, {impl.Deed{Kind: impl.BnAxiom, Text: "01 x1=x1"}, "2:", []string{"01 x0=x0", "01 x1=x1"}}})
}

func TestDeedsThatTakeAnAxiomAway(t *testing.T) {
	const sig = "1:000,0"
	all := []string{"0 x0=x0", "0 f0(f1,x0)=x0", "00 f0(x0,x1)=f0(x1,x0)", " f1=f1", "0 f0(f1,x0)=x0", "0 x0=f1"}
	for many := range 7 {
		list := []doneCase{}
		for number := range many {
			list = append(list, doneCase{impl.Deed{Kind: impl.BnDrop, Number: number}, sig, slices.Delete(slices.Clone(all[:many]), number, number+1)})
		}
		for _, number := range []int{-1, -many, many, many + 1, 9, 10, 255, 256, math.MaxInt, math.MinInt} {
			if number < 0 || number >= many {
				list = append(list, doneCase{impl.Deed{Kind: impl.BnDrop, Number: number}, "", nil})
			}
		}
		for number := range many {
			list = append(list, doneCase{impl.Deed{Kind: impl.BnDrop, Number: number, Text: all[number]}, "", nil})
		}
		checkDoneCases(t, known(sig, all[:many]...), list)
	}
	// Of two that are the same the other one stays; the equation is there then, until it goes, too.
	b := impl.Bench{Now: known(sig, all[1], all[1])}
	add := impl.Deed{Kind: impl.BnAxiom, Text: all[1]}
	b, _ = checkDone(t, b, impl.Deed{Kind: impl.BnDrop})
	if _, done := checkDone(t, b, add); done || len(b.Now.Axioms) != 1 {
		t.Fatal("added", b)
	}
	b, _ = checkDone(t, b, impl.Deed{Kind: impl.BnDrop})
	if _, done := checkDone(t, b, add); !done || len(b.Now.Axioms) != 0 {
		t.Fatal("not added", b)
	}
}

// numbered returns theories that differ from each other: of axioms and of signatures.
func numbered(k int) impl.Theory {
	return known([]string{"1:0", "1:00,0", "2:01"}[k%3], slices.Repeat([]string{"0 x0=x0"}, k/3%7)...)
}

func TestTheoriesOfBefore(t *testing.T) {
	// As many as can be put back are put back, the last one first.
	b := impl.Bench{Now: numbered(0)}
	for k := 1; k <= 15; k++ {
		text := impl.SigText(numbered(k).Over)
		b, _ = checkDone(t, b, impl.Deed{Kind: impl.BnSig, Text: text})
		if len(b.Past) != min(k, 10) {
			t.Fatal(k, b)
		}
	}
	for k := 14; k >= 5; k-- {
		after, done := checkDone(t, b, impl.Deed{Kind: impl.BnBack})
		if !done || !sameSig(after.Now.Over, numbered(k).Over) || len(after.Past) != k-5 {
			t.Fatal(k, after, done)
		}
		b = after
	}
	if _, done := checkDone(t, b, impl.Deed{Kind: impl.BnBack}); done {
		t.Fatal("nothing of before", b)
	}
	for many := range 11 {
		b := impl.Bench{Now: numbered(20)}
		for k := range many {
			b.Past = append(b.Past, numbered(k))
		}
		for k := many - 1; k >= 0; k-- {
			after, done := checkDone(t, b, impl.Deed{Kind: impl.BnBack})
			if !done || !sameTheory(after.Now, numbered(k)) || !slices.EqualFunc(after.Past, b.Past[:k], sameTheory) {
				t.Fatal(many, k, after, done)
			}
			b = after
		}
		for _, d := range []impl.Deed{{Kind: impl.BnBack}, {Kind: impl.BnBack, Number: 1}, {Kind: impl.BnBack, Text: "x"}} {
			if _, done := checkDone(t, b, d); done {
				t.Fatal("nothing of before", b)
			}
		}
	}
	// The theory of before the signature was set has its axioms still.
	b = impl.Bench{Now: group().t}
	b, _ = checkDone(t, b, impl.Deed{Kind: impl.BnSig, Text: "1:000,0,00"})
	if len(b.Now.Axioms) != 0 {
		t.Fatal("axioms stay", b)
	}
	b, _ = checkDone(t, b, impl.Deed{Kind: impl.BnBack})
	wantBench(t, b, impl.Bench{Now: group().t})
}

// checkInParts looks whether deeds, in two parts, one after the other, lead to the same bench, and whether the numbers of those that were done add up; and whether those alone that can be done lead to it, too.
func checkInParts(t *testing.T, b impl.Bench, list []impl.Deed) int {
	t.Helper()
	whole, many := checkDeeds(t, b, list)
	if !impl.BenchValid(whole) {
		t.Fatal("not valid", b, list, whole)
	}
	for at := range len(list) + 1 {
		first, some := impl.BenchRun(b, list[:at])
		last, others := impl.BenchRun(first, list[at:])
		wantBench(t, last, whole, b, list, at)
		if some+others != many {
			t.Fatal("they do not add up", b, list, at, some, others, many)
		}
	}
	var done []impl.Deed
	now := b
	for _, d := range list {
		after, ok := impl.BenchDo(now, d)
		if ok {
			done = append(done, d)
		}
		now = after
	}
	wantBench(t, now, whole, b, list)
	alone, all := impl.BenchRun(b, done)
	wantBench(t, alone, whole, b, done)
	if len(done) != many || all != many {
		t.Fatal("so many were done", b, list, len(done), all, many)
	}
	return many
}

func TestP39WhateverIsDoneTheBenchIsValid(t *testing.T) {
	seen := map[bool]int{}
	for i, b := range benches(404) {
		r := rand.New(rand.NewSource(int64(i + 6100)))
		list := anyDeeds(r, b, []int{0, 1, 2, 5, 10, 20, 39, 40}[i%8])
		many := checkInParts(t, b, list)
		seen[true] += many
		seen[false] += len(list) - many
	}
	if seen[true] < 500 || seen[false] < 200 {
		t.Fatal(seen)
	}
	for _, b := range benches(405)[:40] {
		checkInParts(t, b, nil)
		checkInParts(t, b, []impl.Deed{})
		if many := checkInParts(t, b, wrongDeeds()[:40]); many != 0 {
			t.Fatal("done", many)
		}
	}
}

// As many deeds at once as there may be, and one more, whether they can be done or not.
func TestP39SoManyDeeds(t *testing.T) {
	theory := known("1:00")
	sig := impl.Deed{Kind: impl.BnSig, Text: "1:"}
	for _, c := range []struct {
		list []impl.Deed
		many int
	}{
		{slices.Repeat([]impl.Deed{sig}, 40), 40},
		{slices.Repeat([]impl.Deed{sig, {Kind: impl.BnBack}}, 20), 40},
		{slices.Repeat([]impl.Deed{{Kind: impl.BnBack}}, 40), 0},
		{slices.Repeat([]impl.Deed{{Kind: impl.BnAxiom, Text: "0 x0=x0"}}, 40), 1},
		{slices.Repeat([]impl.Deed{{Kind: impl.BnAxiom, Text: "0 x0=x0"}, {Kind: impl.BnDrop}}, 20), 40},
		{slices.Repeat([]impl.Deed{{Kind: -1}}, 40), 0},
	} {
		b := impl.Bench{Now: theory}
		if many := checkInParts(t, b, c.list); many != c.many {
			t.Fatal(c, many)
		}
		for _, more := range []impl.Deed{sig, {Kind: impl.BnBack}, {Kind: 4}, {}} {
			for _, list := range [][]impl.Deed{append(slices.Clone(c.list), more), append([]impl.Deed{more}, c.list...), append(slices.Clone(c.list), c.list...)} {
				got, many := impl.BenchRun(b, list)
				if many != 0 {
					t.Fatal("done", many)
				}
				wantBench(t, got, impl.Bench{}, list)
			}
		}
	}
	got, many := impl.BenchRun(impl.Bench{Now: theory}, make([]impl.Deed, 1000000))
	if many != 0 {
		t.Fatal("done", many)
	}
	wantBench(t, got, impl.Bench{})
	for _, b := range badBenches() {
		for _, list := range [][]impl.Deed{nil, {sig}, {{Kind: impl.BnBack}}, {{Kind: impl.BnDrop}}, slices.Repeat([]impl.Deed{sig}, 40), slices.Repeat([]impl.Deed{sig}, 41)} {
			got, many := impl.BenchRun(b, list)
			if many != 0 {
				t.Fatal("done", b, list, many)
			}
			wantBench(t, got, impl.Bench{}, b, list)
		}
	}
}
