package tests

import (
	"math/rand"
	"slices"
	"testing"

	"loop.example/theorymodules/impl"
)

// checkRun compares what steps lead to with what the document tells, and does them in two parts.
func checkRun(t *testing.T, theory impl.Theory, vars []int, u []int, steps []impl.Step) {
	t.Helper()
	var want []int
	ways, wantOk := waysByHand(theory, vars, u, steps)
	if wantOk {
		want = ways[len(ways)-1]
	}
	last, ok := impl.ProofRun(theory, vars, u, steps)
	wantRow(t, last, ok, want, wantOk, theory, vars, u, steps)
	for first := range steps {
		middle, okFirst := impl.ProofRun(theory, vars, u, steps[:first])
		if !okFirst && ok {
			t.Fatal("the first part is not done", theory, vars, u, steps, first)
		}
		if !okFirst {
			continue
		}
		if !sameRow(impl.TermAt(theory.Over, vars, middle, 0), middle) {
			t.Fatal("no term", theory, vars, u, steps, middle)
		}
		again, okAgain := impl.ProofRun(theory, vars, middle, steps[first:])
		if len(steps) <= 20 {
			wantRow(t, again, okAgain, last, ok, "in two parts", theory, vars, u, steps, first)
		}
	}
}

func TestP57ProofsFollowEachOther(t *testing.T) {
	r := rand.New(rand.NewSource(23))
	for i, w := range worlds() {
		list := w.pool(int64(i+1300), 20)
		for _, u := range list {
			steps, e := w.walk(r, u, 1+r.Intn(9), list)
			checkRun(t, w.t, w.vars, u, steps)
			checkRun(t, w.t, w.vars, e.Right, backByHand(steps))
			if len(steps) == 0 {
				continue
			}
			// A step in the middle that cannot be done.
			for range 4 {
				at := r.Intn(len(steps))
				p := steps[at]
				p.At, p.Back = p.At+r.Intn(3)-1, r.Intn(2) == 0
				checkRun(t, w.t, w.vars, u, slices.Concat(steps[:at], []impl.Step{p}, steps[at+1:]))
				checkRun(t, w.t, w.vars, u, slices.Delete(slices.Clone(steps), at, at+1))
			}
		}
	}
}

// toAndFro returns so many steps from f1 to f2(f1), and back, for the axiom x0=f2(x0) with the number 0.
func toAndFro(many int) []impl.Step {
	var steps []impl.Step
	for i := range many {
		steps = append(steps, stepAt(0, i%2 == 1, 0, []int{1}))
	}
	return steps
}

func TestRunsOfSteps(t *testing.T) {
	w := worldOf("1:000,0,00", []int{0, 0}, "0 x0=f2(x0)", "0 f0(f1,x0)=x0")
	one, two := []int{1}, []int{2, 1}
	for many := range 25 {
		want := [][]int{one, two}[many%2]
		if many > 20 {
			want = nil
		}
		last, ok := impl.ProofRun(w.t, w.vars, one, toAndFro(many))
		wantRow(t, last, ok, want, many <= 20, many, "steps")
		e := impl.Eq{Vars: w.vars, Left: one, Right: [][]int{one, two}[many%2]}
		if impl.ProofOk(w.t, e, toAndFro(many)) != (many <= 20) {
			t.Fatal(many, "steps")
		}
	}
	last, ok := impl.ProofRun(w.t, w.vars, one, toAndFro(100000))
	wantRow(t, last, ok, nil, false, "many steps")
	// No steps: the term itself, whatever it is, as long as it is one, and of 30 numbers too.
	for _, row := range [][]int{{100}, {101}, {1}, {0, 100, 1}, chain(30, 101)} {
		for _, none := range [][]impl.Step{nil, {}} {
			last, ok := impl.ProofRun(w.t, w.vars, row, none)
			wantRow(t, last, ok, row, true, "no steps")
		}
	}
	// One step that cannot be done, at the beginning, in the middle and at the end, also if it leads to where it is.
	good := toAndFro(6)
	for at := range 7 {
		for _, bad := range []impl.Step{stepAt(2, false, 0, one), stepAt(-1, false, 0, one), stepAt(0, false, 2, one), stepAt(0, false, -1, one), stepAt(0, false, 0), stepAt(0, false, 0, []int{100}), stepAt(1, false, 0, one)} {
			last, ok := impl.ProofRun(w.t, w.vars, one, slices.Insert(slices.Clone(good), at, bad))
			wantRow(t, last, ok, nil, false, at, bad)
		}
	}
	// A term on the way that is too long, though the last one is not.
	longer := []impl.Step{stepAt(0, false, 0, chain(30, 1)), stepAt(0, true, 0, chain(30, 1))}
	last, ok = impl.ProofRun(w.t, w.vars, chain(30, 1), longer)
	wantRow(t, last, ok, nil, false, "31 numbers on the way")
	longer = []impl.Step{stepAt(0, false, 0, chain(29, 1)), stepAt(0, true, 0, chain(29, 1))}
	last, ok = impl.ProofRun(w.t, w.vars, chain(29, 1), longer)
	wantRow(t, last, ok, chain(29, 1), true, "30 numbers on the way")
}

func TestRunsOfWhatIsNotOk(t *testing.T) {
	w := group(0, 0)
	for _, bad := range badTheories() {
		for _, steps := range [][]impl.Step{nil, {}, {stepAt(1, false, 0, []int{100})}} {
			for _, u := range [][]int{{0, 1, 100}, {100}, {0}} {
				last, ok := impl.ProofRun(bad, w.vars, u, steps)
				wantRow(t, last, ok, nil, false, bad, u, steps)
				e := impl.Eq{Vars: w.vars, Left: u, Right: u}
				if impl.ProofOk(bad, e, steps) {
					t.Fatal("proved", bad, e, steps)
				}
				carried, ok := impl.ProofPut(bad, e, steps, w.vars, w.letters())
				wantSteps(t, carried, ok, nil, false, bad, e, steps)
				moved, ok := impl.ProofUnder(bad, e, steps, u, 0)
				wantSteps(t, moved, ok, nil, false, bad, e, steps)
			}
		}
	}
	for _, bad := range badVars(1) {
		last, ok := impl.ProofRun(w.t, bad, []int{1}, nil)
		wantRow(t, last, ok, nil, false, "letters", bad)
		if impl.ProofOk(w.t, impl.Eq{Vars: bad, Left: []int{1}, Right: []int{1}}, nil) {
			t.Fatal("letters", bad)
		}
	}
	for _, row := range [][]int{nil, {}, {0}, {2}, {102}, {1, 1}, {-1}, {3}, {0, 100}, chain(31, 1)} {
		last, ok := impl.ProofRun(w.t, w.vars, row, nil)
		wantRow(t, last, ok, nil, false, row)
		if impl.ProofOk(w.t, impl.Eq{Vars: w.vars, Left: row, Right: row}, nil) {
			t.Fatal("proved", row)
		}
	}
}

func TestP58EveryTermIsItself(t *testing.T) {
	r := rand.New(rand.NewSource(24))
	for i, w := range worlds() {
		list := w.pool(int64(i+1400), 25)
		for _, u := range list {
			for _, v := range append(list, anyRow(r)) {
				e := impl.Eq{Vars: w.vars, Left: u, Right: v}
				if impl.ProofOk(w.t, e, nil) != sameRow(u, v) || impl.ProofOk(w.t, turned(e), []impl.Step{}) != sameRow(u, v) {
					t.Fatal("without steps", w, u, v)
				}
			}
			steps, e := w.walk(r, u, 1+r.Intn(8), list)
			if !impl.ProofOk(w.t, e, steps) || !impl.EqOk(w.s, e) {
				t.Fatal("not proved", w, e, steps)
			}
			for range 4 {
				other := impl.Eq{Vars: anyVars(r, w.setting), Left: anyTerm(r, list), Right: anyTerm(r, list)}
				for _, e := range []impl.Eq{{Vars: e.Vars, Left: e.Left, Right: other.Right}, {Vars: e.Vars, Left: other.Left, Right: e.Right}, {Vars: other.Vars, Left: e.Left, Right: e.Right}, other} {
					_, want := proofByHand(w.t, e, steps)
					if impl.ProofOk(w.t, e, steps) != want {
						t.Fatal(w, e, steps, want)
					}
				}
			}
		}
	}
}

func TestProofsOfGroups(t *testing.T) {
	w := group(0)
	e := eqOf(w.s, "0 f0(f2(x0),f0(x0,x0))=x0")
	x0 := []int{100}
	steps := []impl.Step{stepAt(0, true, 0, []int{2, 100}, x0, x0), stepAt(2, false, 1, x0), stepAt(1, false, 0, x0)}
	if !impl.ProofOk(w.t, e, steps) || impl.ProofOk(w.t, turned(e), steps) || !impl.ProofOk(w.t, turned(e), impl.ProofBack(steps)) {
		t.Fatal(e, steps)
	}
	for i := range steps {
		if impl.ProofOk(w.t, e, steps[:i]) || impl.ProofOk(w.t, e, steps[i+1:]) {
			t.Fatal("a part of the steps", i)
		}
	}
	if impl.ProofOk(w.t, impl.Eq{Vars: e.Vars, Left: e.Left, Right: []int{0, 1, 100}}, steps) || impl.ProofOk(w.t, impl.Eq{Left: e.Left, Right: e.Right}, steps) || impl.ProofOk(w.t, impl.Eq{}, nil) {
		t.Fatal("another equation")
	}
	// No equation: the steps lead from Left on, but not to a term.
	for _, bad := range []impl.Eq{{Vars: e.Vars, Left: e.Left}, {Vars: e.Vars, Left: e.Left, Right: []int{101}}, {Vars: e.Vars, Right: e.Right}} {
		if impl.ProofOk(w.t, bad, steps) || impl.ProofOk(w.t, bad, nil) {
			t.Fatal("no equation", bad)
		}
	}
	if impl.ProofOk(impl.Theory{Over: w.s}, e, steps) {
		t.Fatal("no axioms")
	}
}

func TestP5ProofsTurnRound(t *testing.T) {
	r := rand.New(rand.NewSource(25))
	for i, w := range worlds() {
		list := w.pool(int64(i+1500), 25)
		for _, u := range list {
			steps, e := w.walk(r, u, r.Intn(10), list)
			back := impl.ProofBack(steps)
			wantSteps(t, back, true, backByHand(steps), true, w, steps)
			wantSteps(t, impl.ProofBack(back), true, steps, true, "twice", w, steps)
			if !impl.ProofOk(w.t, turned(e), back) {
				t.Fatal("not proved", w, e, steps, back)
			}
		}
	}
	// All steps are turned, also such that no theory has.
	for many := range 60 {
		var steps []impl.Step
		for range many {
			steps = append(steps, impl.Step{Axiom: r.Intn(2000) - 1000, Back: r.Intn(2) == 0, At: r.Intn(2000) - 1000, Terms: anyTerms(r, nil, r.Intn(4))})
		}
		back := impl.ProofBack(steps)
		wantSteps(t, back, true, backByHand(steps), true, steps)
		wantSteps(t, impl.ProofBack(back), true, steps, true, "twice", steps)
	}
	if len(impl.ProofBack(nil)) != 0 || len(impl.ProofBack([]impl.Step{})) != 0 || len(impl.ProofBack(toAndFro(1000))) != 1000 {
		t.Fatal("no steps, and many")
	}
	one := impl.ProofBack([]impl.Step{{}})
	wantSteps(t, one, true, []impl.Step{{Back: true}}, true, "nothing")
}

// checkPutProof compares the steps that are carried with those that the document tells; they prove the equation with its letters replaced.
func checkPutProof(t *testing.T, w world, e impl.Eq, steps []impl.Step, others []int, terms [][]int) bool {
	t.Helper()
	carried, ok := impl.ProofPut(w.t, e, steps, others, terms)
	want, wantOk := putProofByHand(w.t, e, steps, others, terms)
	wantSteps(t, carried, ok, want, wantOk, w, e, steps, others, terms)
	if !ok {
		return false
	}
	left, _ := impl.TermPut(w.s, e.Vars, e.Left, others, terms)
	right, _ := impl.TermPut(w.s, e.Vars, e.Right, others, terms)
	if !impl.ProofOk(w.t, impl.Eq{Vars: others, Left: left, Right: right}, carried) {
		t.Fatal("not proved", w, e, steps, others, terms, carried)
	}
	return true
}

func TestP6ProofsGoWithTheirLetters(t *testing.T) {
	r := rand.New(rand.NewSource(26))
	carried, refused := 0, 0
	for i, w := range worlds() {
		list := w.pool(int64(i+1600), 25)
		for _, u := range list {
			steps, e := w.walk(r, u, r.Intn(7), list)
			if !checkPutProof(t, w, e, steps, w.vars, w.letters()) {
				t.Fatal("by themselves", w, e, steps)
			}
			for range 6 {
				others := setting{w.s, randomVars(r, w.s.Sorts)}
				pool := others.pool(r.Int63(), 14)
				terms, ok := others.termsFor(r, pool, w.vars)
				if !ok {
					terms = anyTerms(r, pool, len(w.vars))
				}
				if checkPutProof(t, w, e, steps, others.vars, terms) {
					carried++
				} else {
					refused++
				}
				checkPutProof(t, w, e, steps, others.vars, anyTerms(r, pool, r.Intn(5)))
				checkPutProof(t, w, turned(e), steps, others.vars, terms)
			}
		}
	}
	if carried < 1000 || refused < 1000 {
		t.Fatal("few proofs", carried, refused)
	}
}

func TestProofsWithTheirLettersReplaced(t *testing.T) {
	x0, x1, one := []int{100}, []int{101}, []int{1}
	w := worldOf("1:000,0,00", []int{0, 0}, "0 x0=f2(x0)", "00 f0(x0,x1)=f0(x1,x0)", "000 f2(x1)=x1", "0 f0(f1,x0)=x0", " f1=f2(f1)")
	swap := eqOf(w.s, "00 f0(x0,f2(x1))=f0(x0,x1)")
	remove := []impl.Step{stepAt(0, true, 2, x1)}
	long := eqOf(w.s, "00 x0=x0")
	// To f2(x0), and back to x0: f2(x0) is on the way.
	there := []impl.Step{stepAt(0, false, 0, x0), stepAt(0, true, 0, x0)}
	// The axiom has no letters, so that only the place of the step is another one.
	plain, put := eqOf(w.s, "0 f0(x0,f1)=f0(x0,f2(f1))"), []impl.Step{stepAt(4, false, 2)}
	twice := eqOf(w.s, "0 f0(x0,f2(x0))=f0(x0,x0)")
	for _, c := range []struct {
		e      impl.Eq
		steps  []impl.Step
		others []int
		terms  [][]int
		want   []impl.Step
		ok     bool
	}{
		// By themselves, exchanged, by longer terms and by constants.
		{swap, remove, w.vars, [][]int{x0, x1}, remove, true},
		{swap, remove, w.vars, [][]int{x1, x0}, []impl.Step{stepAt(0, true, 2, x0)}, true},
		{swap, remove, nil, [][]int{one, one}, []impl.Step{stepAt(0, true, 2, one)}, true},
		{swap, remove, nil, [][]int{{0, 1, 1}, {2, 1}}, []impl.Step{stepAt(0, true, 4, []int{2, 1})}, true},
		{swap, remove, []int{0, 0, 0}, [][]int{{0, 102, 102}, {2, 102}}, []impl.Step{stepAt(0, true, 4, []int{2, 102})}, true},
		// A letter that stands twice: the place moves by one of both.
		{twice, []impl.Step{stepAt(0, true, 2, x0)}, nil, [][]int{chain(5, 1)}, []impl.Step{stepAt(0, true, 6, chain(5, 1))}, true},
		{twice, []impl.Step{stepAt(0, true, 2, x0), stepAt(1, false, 0, x0, x0), stepAt(0, false, 2, x0), stepAt(0, true, 2, x0)}, nil, [][]int{chain(3, 1)},
			[]impl.Step{stepAt(0, true, 4, chain(3, 1)), stepAt(1, false, 0, chain(3, 1), chain(3, 1)), stepAt(0, false, 4, chain(3, 1)), stepAt(0, true, 4, chain(3, 1))}, true},
		// After a step other letters stand before the place.
		{eqOf(w.s, "00 f0(x0,x1)=f0(x1,f2(x0))"), []impl.Step{stepAt(1, false, 0, x0, x1), stepAt(0, false, 2, x0)}, w.vars, [][]int{one, chain(7, 100)},
			[]impl.Step{stepAt(1, false, 0, one, chain(7, 100)), stepAt(0, false, 8, one)}, true},
		// A place in a term that the letters of the axiom are replaced by is one of the term that is carried.
		{eqOf(w.s, "00 f0(x0,f0(f2(x0),x1))=f0(x0,f0(x0,x1))"), []impl.Step{stepAt(0, true, 3, x0)}, w.vars, [][]int{chain(4, 100), one}, []impl.Step{stepAt(0, true, 6, chain(4, 100))}, true},
		// Letters that do not stand in the equation.
		{eqOf(w.s, "00 f2(x0)=x0"), []impl.Step{stepAt(0, true, 0, x0)}, w.vars, [][]int{x1, chain(30, 1)}, []impl.Step{stepAt(0, true, 0, x1)}, true},
		{eqOf(w.s, "00 f2(x0)=x0"), []impl.Step{stepAt(0, true, 0, x0)}, w.vars, [][]int{x1, chain(31, 1)}, nil, false},
		{eqOf(w.s, " f2(f1)=f1"), []impl.Step{stepAt(0, true, 0, one)}, w.vars, nil, []impl.Step{stepAt(0, true, 0, one)}, true},
		{eqOf(w.s, "00 f2(f1)=f1"), []impl.Step{stepAt(2, false, 0, x0, one, x1)}, w.vars, [][]int{x1, chain(30, 1)}, []impl.Step{stepAt(2, false, 0, x1, one, chain(30, 1))}, true},
		{eqOf(w.s, "00 f2(f1)=f1"), []impl.Step{stepAt(2, false, 0, x0, one, []int{2, 101})}, w.vars, [][]int{x1, chain(29, 1)}, []impl.Step{stepAt(2, false, 0, x1, one, chain(30, 1))}, true},
		{eqOf(w.s, "00 f2(f1)=f1"), []impl.Step{stepAt(2, false, 0, x0, one, []int{2, 101})}, w.vars, [][]int{x1, chain(30, 1)}, nil, false},
		// A term on the way of exactly 30 numbers, and of more: the first one, the last one, and one between them.
		{long, there, nil, [][]int{chain(29, 1), one}, []impl.Step{stepAt(0, false, 0, chain(29, 1)), stepAt(0, true, 0, chain(29, 1))}, true},
		{long, there, nil, [][]int{chain(30, 1), one}, nil, false},
		{long, nil, nil, [][]int{chain(30, 1), one}, nil, true},
		{eqOf(w.s, "0 f2(x0)=x0"), []impl.Step{stepAt(0, true, 0, x0)}, nil, [][]int{chain(29, 1)}, []impl.Step{stepAt(0, true, 0, chain(29, 1))}, true},
		{eqOf(w.s, "0 f2(x0)=x0"), []impl.Step{stepAt(0, true, 0, x0)}, nil, [][]int{chain(30, 1)}, nil, false},
		{eqOf(w.s, "0 x0=f2(x0)"), []impl.Step{stepAt(0, false, 0, x0)}, nil, [][]int{chain(29, 1)}, []impl.Step{stepAt(0, false, 0, chain(29, 1))}, true},
		{eqOf(w.s, "0 x0=f2(x0)"), []impl.Step{stepAt(0, false, 0, x0)}, nil, [][]int{chain(30, 1)}, nil, false},
		// No steps.
		{eqOf(w.s, "0 f0(x0,x0)=f0(x0,x0)"), nil, nil, [][]int{chain(14, 1)}, nil, true},
		{eqOf(w.s, "0 f0(x0,x0)=f0(x0,x0)"), nil, nil, [][]int{chain(15, 1)}, nil, false},
		{eqOf(w.s, "0 f0(x0,x0)=f0(x0,f1)"), nil, nil, [][]int{one}, nil, false},
		{eqOf(w.s, " f1=f1"), nil, nil, nil, nil, true},
		{eqOf(w.s, " f1=f1"), nil, []int{0, 0, 0, 0, 0}, nil, nil, false},
		{eqOf(w.s, " f1=f1"), nil, nil, [][]int{one}, nil, false},
		{eqOf(w.s, "0 f1=f1"), nil, nil, nil, nil, false},
		{eqOf(w.s, "0 f1=f1"), nil, nil, [][]int{{100}}, nil, false},
		// Steps of an axiom without letters.
		{plain, put, nil, [][]int{one}, put, true},
		{plain, put, w.vars, [][]int{chain(5, 101)}, []impl.Step{stepAt(4, false, 6)}, true},
		{plain, put, nil, nil, nil, false},
		{plain, put, nil, [][]int{one, one}, nil, false},
		{plain, put, nil, [][]int{x0}, nil, false},
		{plain, put, nil, [][]int{nil}, nil, false},
		// Terms that do not fit.
		{swap, remove, w.vars, [][]int{x0}, nil, false},
		{swap, remove, w.vars, [][]int{x0, x1, x1}, nil, false},
		{swap, remove, w.vars, nil, nil, false},
		{swap, remove, w.vars, [][]int{x0, {102}}, nil, false},
		{swap, remove, w.vars, [][]int{x0, nil}, nil, false},
		{swap, remove, nil, [][]int{one, x1}, nil, false},
		{swap, remove, []int{1, 0}, [][]int{one, one}, nil, false},
		// Steps that do not prove it.
		{swap, nil, w.vars, [][]int{x0, x1}, nil, false},
		{swap, []impl.Step{stepAt(0, true, 2, x0)}, w.vars, [][]int{x0, x0}, nil, false},
		{turned(swap), remove, w.vars, [][]int{x0, x1}, nil, false},
		{swap, []impl.Step{stepAt(0, true, -2, x1)}, w.vars, [][]int{x0, x1}, nil, false},
		{swap, []impl.Step{stepAt(0, true, 9, x1)}, w.vars, [][]int{x0, x1}, nil, false},
		{impl.Eq{}, nil, nil, nil, nil, false},
	} {
		carried, ok := impl.ProofPut(w.t, c.e, c.steps, c.others, c.terms)
		wantSteps(t, carried, ok, c.want, c.ok, c)
		checkPutProof(t, w, c.e, c.steps, c.others, c.terms)
	}
	// A proof of 20 steps, and one of 21, which is none.
	for many := 18; many < 24; many += 2 {
		_, ok := impl.ProofPut(w.t, eqOf(w.s, " f1=f1"), toAndFro(many), nil, nil)
		_, okUnder := impl.ProofUnder(w.t, eqOf(w.s, " f1=f1"), toAndFro(many), []int{2, 1}, 1)
		if ok != (many <= 20) || okUnder != (many <= 20) {
			t.Fatal(many, "steps")
		}
	}
}

func TestProofsOfTwoSortsWithTheirLettersReplaced(t *testing.T) {
	w := worldOf("2:010,01,10,0,1", []int{1, 0}, "01 f0(x0,x1)=x0", "1 f1(f2(x0))=x0")
	e := eqOf(w.s, "10 f0(x1,f1(f2(x0)))=f0(x1,x0)")
	steps := []impl.Step{stepAt(1, false, 2, []int{100})}
	for _, terms := range [][][]int{{{4}, {3}}, {{100}, {101}}, {{1, 3}, {0, 3, 4}}, {{3}, {3}}, {{4}, {4}}, {{101}, {100}}, {{3}, {4}}, {{100}, {100}}} {
		checkPutProof(t, w, e, steps, []int{1, 0}, terms)
	}
	carried, ok := impl.ProofPut(w.t, e, steps, []int{0}, [][]int{{1, 100}, {0, 100, 4}})
	wantSteps(t, carried, ok, []impl.Step{stepAt(1, false, 4, []int{1, 100})}, true, e)
	carried, ok = impl.ProofPut(w.t, e, steps, nil, [][]int{{3}, {3}})
	wantSteps(t, carried, ok, nil, false, e)
}

// checkUnder compares the steps within a term with those that the document tells; they prove that the term is the term with Right at the place.
func checkUnder(t *testing.T, w world, e impl.Eq, steps []impl.Step, u []int, at int) bool {
	t.Helper()
	moved, ok := impl.ProofUnder(w.t, e, steps, u, at)
	want, wantOk := underByHand(w.t, e, steps, u, at)
	wantSteps(t, moved, ok, want, wantOk, w, e, steps, u, at)
	if !ok {
		return false
	}
	after, _ := impl.TermSwap(w.s, e.Vars, u, at, e.Right)
	if !impl.ProofOk(w.t, impl.Eq{Vars: e.Vars, Left: u, Right: after}, moved) {
		t.Fatal("not proved", w, e, steps, u, at, moved)
	}
	return true
}

func TestP7ProofsWorkWithinTerms(t *testing.T) {
	r := rand.New(rand.NewSource(27))
	moved := 0
	for i, w := range worlds() {
		list := w.pool(int64(i+1700), 30)
		for _, u := range list {
			for range 2 {
				at := r.Intn(len(u))
				steps, e := w.walk(r, atByHand(w.s, w.vars, u, at), r.Intn(7), list)
				if checkUnder(t, w, e, steps, u, at) {
					moved++
				}
				for other := -1; other <= len(u); other++ {
					checkUnder(t, w, e, steps, u, other)
				}
				checkUnder(t, w, turned(e), steps, u, at)
				checkUnder(t, w, e, steps, anyTerm(r, list), r.Intn(4))
			}
		}
	}
	if moved < 1000 {
		t.Fatal("few proofs", moved)
	}
}

func TestProofsWithinTerms(t *testing.T) {
	x0, x1, one := []int{100}, []int{101}, []int{1}
	w := worldOf("1:000,0,00", []int{0, 0}, "0 x0=f2(x0)", "00 f0(x0,x1)=f0(x1,x0)")
	exchange, remove := eqOf(w.s, "00 f0(x0,x1)=f0(x1,x0)"), eqOf(w.s, "0 f2(x0)=x0")
	turn := []impl.Step{stepAt(1, false, 0, x0, x1)}
	there := []impl.Step{stepAt(0, false, 0, x0), stepAt(0, true, 0, x0)}
	for _, c := range []struct {
		e     impl.Eq
		steps []impl.Step
		u     []int
		at    int
		want  []impl.Step
		ok    bool
	}{
		{exchange, turn, []int{0, 100, 101}, 0, turn, true},
		{exchange, turn, []int{2, 0, 100, 101}, 1, []impl.Step{stepAt(1, false, 1, x0, x1)}, true},
		{exchange, turn, []int{0, 0, 100, 101, 0, 100, 101}, 4, []impl.Step{stepAt(1, false, 4, x0, x1)}, true},
		{remove, []impl.Step{stepAt(0, true, 0, x0)}, []int{0, 1, 2, 100}, 2, []impl.Step{stepAt(0, true, 2, x0)}, true},
		// At the last place, and steps at places within the part.
		{eqOf(w.s, "0 x0=f2(x0)"), []impl.Step{stepAt(0, false, 0, x0)}, []int{0, 1, 100}, 2, []impl.Step{stepAt(0, false, 2, x0)}, true},
		{eqOf(w.s, "0 f2(f2(x0))=f2(x0)"), []impl.Step{stepAt(0, true, 1, x0)}, []int{0, 1, 2, 2, 100}, 2, []impl.Step{stepAt(0, true, 3, x0)}, true},
		// A place whose part is not Left, and such that there are not.
		{exchange, turn, []int{0, 101, 100}, 0, nil, false},
		{exchange, turn, []int{2, 0, 100, 101}, 0, nil, false},
		{exchange, turn, []int{2, 0, 100, 101}, 2, nil, false},
		{exchange, turn, []int{0, 100, 101}, -1, nil, false},
		{exchange, turn, []int{0, 100, 101}, 3, nil, false},
		{exchange, turn, []int{0, 100, 101, 1}, 0, nil, false},
		{exchange, turn, nil, 0, nil, false},
		{remove, []impl.Step{stepAt(0, true, 0, x0)}, []int{0, 101, 2, 100}, 2, nil, false},
		// A term on the way of exactly 30 numbers, and of more.
		{eqOf(w.s, "0 x0=x0"), there, chain(29, 100), 28, []impl.Step{stepAt(0, false, 28, x0), stepAt(0, true, 28, x0)}, true},
		{eqOf(w.s, "0 x0=x0"), there, chain(30, 100), 29, nil, false},
		{eqOf(w.s, "0 x0=f2(x0)"), there[:1], chain(29, 100), 28, []impl.Step{stepAt(0, false, 28, x0)}, true},
		{eqOf(w.s, "0 x0=f2(x0)"), there[:1], chain(30, 100), 29, nil, false},
		{remove, []impl.Step{stepAt(0, true, 0, x0)}, chain(30, 100), 28, []impl.Step{stepAt(0, true, 28, x0)}, true},
		{remove, []impl.Step{stepAt(0, true, 0, x0)}, chain(31, 100), 29, nil, false},
		// No steps.
		{exchange, nil, []int{0, 100, 101}, 0, nil, false},
		{eqOf(w.s, "0 x0=x0"), nil, chain(30, 100), 29, nil, true},
		{eqOf(w.s, "0 x0=x0"), nil, chain(30, 100), 28, nil, false},
		{eqOf(w.s, " f1=f1"), nil, one, 0, nil, true},
		{eqOf(w.s, " f1=f1"), nil, x0, 0, nil, false},
		// No proof, and no equation.
		{turned(exchange), turn, []int{0, 101, 100}, 0, nil, false},
		{exchange, turn[:0], []int{0, 100, 101}, 0, nil, false},
		{impl.Eq{}, nil, one, 0, nil, false},
		{impl.Eq{}, nil, nil, 0, nil, false},
		{impl.Eq{Vars: w.vars, Left: one}, nil, one, 0, nil, false},
	} {
		moved, ok := impl.ProofUnder(w.t, c.e, c.steps, c.u, c.at)
		wantSteps(t, moved, ok, c.want, c.ok, c)
		checkUnder(t, w, c.e, c.steps, c.u, c.at)
	}
}
