package tests

import (
	"math"
	"math/rand"
	"slices"
	"testing"

	"loop.example/theorymodules/impl"
)

// checkFrom compares the steps from a term with those that the document tells; each of them can be done, and leads back.
func checkFrom(t *testing.T, theory impl.Theory, vars []int, u []int) []impl.Step {
	t.Helper()
	list := impl.StepsFrom(theory, vars, u)
	wantSteps(t, list, true, fromByHand(theory, vars, u), true, theory, vars, u)
	for i, p := range list {
		if i > 0 && !before(list[i-1], p) {
			t.Fatal("not in their order", theory, vars, u, list[i-1], p)
		}
		after, ok := impl.StepDo(theory, vars, u, p)
		if !ok {
			t.Fatal("cannot be done", theory, vars, u, p)
		}
		p.Back = !p.Back
		back, ok := impl.StepDo(theory, vars, after, p)
		wantRow(t, back, ok, u, true, "back", theory, vars, u, p)
	}
	return list
}

// before reports whether one step stands before another one: by places, axioms, and from left to right first.
func before(p, q impl.Step) bool {
	if p.At != q.At {
		return p.At < q.At
	}
	if p.Axiom != q.Axiom {
		return p.Axiom < q.Axiom
	}
	return !p.Back && q.Back
}

func TestP59WhatIsToldCanBeDone(t *testing.T) {
	r := rand.New(rand.NewSource(28))
	told := 0
	for i, w := range worlds() {
		list := w.pool(int64(i+1800), 40)
		for _, u := range list {
			told += len(checkFrom(t, w.t, w.vars, u))
			if len(checkFrom(t, impl.Theory{Over: w.s}, w.vars, u)) > 0 {
				t.Fatal("no axioms", w, u)
			}
		}
		for range 20 {
			checkFrom(t, w.t, anyVars(r, w.setting), anyTerm(r, list))
		}
	}
	if told < 5000 {
		t.Fatal("few steps", told)
	}
}

// Each step of one axiom whose terms are parts of the term, if it can be done and puts no new letter there, is told.
func TestStepsAreTried(t *testing.T) {
	for i, w := range worlds() {
		for _, u := range w.pool(int64(i+1900), 15) {
			if len(u) > 7 {
				continue
			}
			told := map[string]bool{}
			for _, p := range impl.StepsFrom(w.t, w.vars, u) {
				told[keyOfStep(w, p)] = true
			}
			for axiom, e := range w.t.Axioms {
				for at := range u {
					for _, back := range []bool{false, true} {
						w.tryTerms(t, u, impl.Step{Axiom: axiom, Back: back, At: at}, e.Vars, told)
					}
				}
			}
		}
	}
}

// keyOfStep names a step by what it does, whatever stands for letters that stand on no side.
func keyOfStep(w world, p impl.Step) string {
	from, to := sidesByHand(w.t, p)
	row := []int{p.At, p.Axiom, 0}
	if p.Back {
		row[2] = 1
	}
	for letter := range p.Terms {
		if stands(from.row(), letter) || stands(to.row(), letter) {
			row = append(append(row, letter, -1), p.Terms[letter]...)
		}
	}
	return textOfRow(row)
}

// tryTerms puts each part of a term, and each letter, for the letters of a step that have no term yet, and fails if it can be done but is not told.
func (w world) tryTerms(t *testing.T, u []int, p impl.Step, letters []int, told map[string]bool) {
	t.Helper()
	from, to := sidesByHand(w.t, p)
	if len(p.Terms) == len(letters) {
		if _, ok := impl.StepDo(w.t, w.vars, u, p); ok && !told[keyOfStep(w, p)] {
			t.Fatal("not told", w, u, p)
		}
		return
	}
	letter := len(p.Terms)
	if !stands(from.row(), letter) && stands(to.row(), letter) {
		return
	}
	list := w.letters()
	if stands(from.row(), letter) {
		list = nil
		for at := range u {
			list = append(list, atByHand(w.s, w.vars, u, at))
		}
	}
	for _, row := range list {
		q := p
		q.Terms = append(slices.Clone(p.Terms), row)
		w.tryTerms(t, u, q, letters, told)
	}
}

func TestStepsThatAreTold(t *testing.T) {
	x0, x1, x2, one := []int{100}, []int{101}, []int{102}, []int{1}
	for _, c := range []struct {
		w    world
		u    string
		want []impl.Step
	}{
		{group(0), "f0(f1,f2(x0))", []impl.Step{
			stepAt(1, false, 0, []int{2, 100}), stepAt(1, true, 0, []int{0, 1, 2, 100}), stepAt(1, true, 1, one), stepAt(1, true, 2, []int{2, 100}), stepAt(1, true, 3, x0)}},
		{group(0, 0), "f0(f2(x1),f0(x1,x1))", []impl.Step{
			stepAt(0, true, 0, []int{2, 101}, x1, x1), stepAt(1, true, 0, []int{0, 2, 101, 0, 101, 101}), stepAt(1, true, 1, []int{2, 101}), stepAt(1, true, 2, x1), stepAt(1, true, 3, []int{0, 101, 101}), stepAt(1, true, 4, x1), stepAt(1, true, 5, x1)}},
		{group(), "f1", []impl.Step{stepAt(1, true, 0, one)}},
		// Both ways, from left to right first, and axioms that stand twice.
		{worldOf("1:000,0,00", []int{0, 0}, "00 f0(x0,x1)=f0(x1,x0)", "0 f0(x0,x0)=x0", "00 f0(x0,x1)=f0(x1,x0)"), "f0(f1,f1)", []impl.Step{
			stepAt(0, false, 0, one, one), stepAt(0, true, 0, one, one), stepAt(1, false, 0, one), stepAt(1, true, 0, []int{0, 1, 1}), stepAt(2, false, 0, one, one), stepAt(2, true, 0, one, one), stepAt(1, true, 1, one), stepAt(1, true, 2, one)}},
		{worldOf("1:", []int{0, 0}, "0 x0=x0"), "x1", []impl.Step{stepAt(0, false, 0, x1), stepAt(0, true, 0, x1)}},
		// Letters that stand only on the side that is put there.
		{worldOf("1:", []int{0, 0}, "00 x0=x1"), "x1", nil},
		{worldOf("1:000,0,00", []int{0}, "00 f0(x0,x1)=x0"), "f2(x0)", nil},
		{worldOf("1:000,0,00", nil, "00 f0(x0,x1)=x0"), "f2(f1)", nil},
		{worldOf("1:000,0,00", []int{0}, "00 f0(x0,x1)=x0"), "f0(f1,x0)", []impl.Step{stepAt(0, false, 0, one, x0)}},
		{worldOf("1:000,0,00", []int{0}, "00 x0=f0(x0,x1)"), "f0(f1,x0)", []impl.Step{stepAt(0, true, 0, one, x0)}},
		{worldOf("1:000,0,00", []int{0}, "0 f2(x0)=f1"), "f0(f1,f2(f1))", []impl.Step{stepAt(0, false, 2, one)}},
		{worldOf("1:000,0,00", nil, "0 f2(x0)=f1"), "f0(f1,f2(f1))", []impl.Step{stepAt(0, false, 2, one)}},
		{worldOf("2:010,01,10,0,1", []int{0, 1}, "10 f1(x1)=x0"), "f1(x0)", nil},
		// Letters that stand on no side: the first letter of the term of their sort, if there is one.
		{worldOf("1:000,0,00", []int{0, 0}, "000 f2(x1)=x1"), "f2(x1)", []impl.Step{stepAt(0, false, 0, x0, x1, x0), stepAt(0, true, 0, x0, []int{2, 101}, x0), stepAt(0, true, 1, x0, x1, x0)}},
		{worldOf("1:000,0,00", []int{0}, "00 f1=f1"), "f1", []impl.Step{stepAt(0, false, 0, x0, x0), stepAt(0, true, 0, x0, x0)}},
		{worldOf("1:000,0,00", nil, "00 f1=f1"), "f1", nil},
		{worldOf("1:000,0,00", nil, "000 f2(x1)=x1", "0 f2(x0)=x0"), "f2(f1)", []impl.Step{stepAt(1, false, 0, one), stepAt(1, true, 0, []int{2, 1}), stepAt(1, true, 1, one)}},
		{worldOf("2:010,01,10,0,1", []int{1, 0, 0}, "01 f3=f3"), "f1(f3)", []impl.Step{stepAt(0, false, 1, x1, x0), stepAt(0, true, 1, x1, x0)}},
		{worldOf("2:010,01,10,0,1", []int{1, 1, 0}, "01 f3=f3"), "f1(x2)", nil},
		{worldOf("2:010,01,10,0,1", []int{1, 1, 0}, "01 f3=f3"), "f3", []impl.Step{stepAt(0, false, 0, x2, x0), stepAt(0, true, 0, x2, x0)}},
		{worldOf("2:010,01,10,0,1", []int{0, 0}, "01 f3=f3"), "f1(f3)", nil},
		{worldOf("2:010,01,10,0,1", []int{1}, "01 f3=f3"), "f1(f3)", nil},
		// A letter alone: only parts of its sort.
		{worldOf("2:010,01,10,0,1", []int{1, 0}, "0 x0=f2(f1(x0))"), "f0(x1,x0)", []impl.Step{stepAt(0, false, 0, []int{0, 101, 100}), stepAt(0, false, 1, x1)}},
		{worldOf("2:010,01,10,0,1", []int{1, 0}, "1 f1(f2(x0))=x0"), "f0(x1,x0)", []impl.Step{stepAt(0, true, 2, x0)}},
		// Theories without axioms.
		{worldOf("1:000,0,00", []int{0}), "f0(f1,f2(x0))", nil},
	} {
		list := impl.StepsFrom(c.w.t, c.w.vars, c.w.term(c.u))
		wantSteps(t, list, true, c.want, true, c)
		checkFrom(t, c.w.t, c.w.vars, c.w.term(c.u))
	}
	// Steps to more than 30 numbers are not told.
	w := worldOf("1:000,0,00", nil, "0 x0=f2(x0)")
	if list := checkFrom(t, w.t, nil, chain(29, 1)); len(list) != 29+28 {
		t.Fatal(len(list))
	}
	if list := checkFrom(t, w.t, nil, chain(30, 1)); len(list) != 29 || list[0].Back != true {
		t.Fatal(len(list))
	}
}

func TestStepsFromWhatIsNotOk(t *testing.T) {
	w := group(0, 0)
	for _, bad := range badTheories() {
		for _, u := range [][]int{{0, 1, 100}, {100}, {0}, {1}} {
			if list := impl.StepsFrom(bad, w.vars, u); list != nil {
				t.Fatal(bad, u, list)
			}
			if list := impl.StepsFrom(bad, nil, u); list != nil {
				t.Fatal(bad, u, list)
			}
			steps, ok := impl.ProofFind(bad, impl.Eq{Vars: w.vars, Left: u, Right: u})
			wantSteps(t, steps, ok, nil, false, bad, u)
			steps, ok = impl.ProofFind(bad, impl.Eq{Vars: w.vars, Left: u, Right: []int{100}})
			wantSteps(t, steps, ok, nil, false, bad, u)
		}
	}
	for _, bad := range badVars(1) {
		if list := impl.StepsFrom(w.t, bad, []int{0, 1, 1}); list != nil {
			t.Fatal(bad, list)
		}
		steps, ok := impl.ProofFind(w.t, impl.Eq{Vars: bad, Left: []int{1}, Right: []int{1}})
		wantSteps(t, steps, ok, nil, false, bad)
	}
	for _, row := range [][]int{nil, {}, {0}, {0, 1}, {2}, {102}, {-1}, {3}, {1, 1}, {0, 1, 100, 100}, {math.MinInt}, chain(31, 1), chain(100000, 1)} {
		if list := impl.StepsFrom(w.t, w.vars, row); list != nil {
			t.Fatal(row, list)
		}
		for _, e := range []impl.Eq{{Vars: w.vars, Left: row, Right: row}, {Vars: w.vars, Left: row, Right: []int{1}}, {Vars: w.vars, Left: []int{1}, Right: row}} {
			steps, ok := impl.ProofFind(w.t, e)
			wantSteps(t, steps, ok, nil, false, e)
		}
	}
	two := worldOf("2:010,01,10,0,1", []int{1, 0})
	steps, ok := impl.ProofFind(two.t, impl.Eq{Vars: two.vars, Left: []int{3}, Right: []int{4}})
	wantSteps(t, steps, ok, nil, false, "two sorts")
}

// checkFind compares the steps that are found with those that the document tells; they prove the equation.
func checkFind(t *testing.T, theory impl.Theory, e impl.Eq, want []impl.Step, wantOk bool) {
	t.Helper()
	steps, ok := impl.ProofFind(theory, e)
	wantSteps(t, steps, ok, want, wantOk, theory, e)
	if ok && !impl.ProofOk(theory, e, steps) {
		t.Fatal("not proved", theory, e, steps)
	}
}

func TestP8WhatIsFoundIsAProof(t *testing.T) {
	r := rand.New(rand.NewSource(29))
	proved := 0
	for i, w := range worlds() {
		list := w.pool(int64(i+2000), 30)
		for k, u := range list {
			for _, theory := range []impl.Theory{w.t, {Over: w.s}} {
				steps, ok := impl.ProofFind(theory, impl.Eq{Vars: w.vars, Left: u, Right: u})
				wantSteps(t, steps, ok, nil, true, "a term and itself", w, u)
			}
			if k%12 != 0 {
				continue
			}
			terms, proofs := spreadByHand(w.t, w.vars, u, 160)
			for range 8 {
				e := impl.Eq{Vars: w.vars, Left: u, Right: terms[r.Intn(len(terms))]}
				found, ok := pickByHand(terms, proofs, e.Right)
				checkFind(t, w.t, e, found, ok)
				if ok {
					proved++
				}
				e.Right = anyTerm(r, list)
				want, wantOk := pickByHand(terms, proofs, e.Right)
				checkFind(t, w.t, e, want, wantOk)
				checkFind(t, impl.Theory{Over: w.s}, e, nil, sameRow(e.Left, e.Right))
			}
		}
	}
	if proved < 400 {
		t.Fatal("few proofs", proved)
	}
}

func TestFoundProofsOfGroups(t *testing.T) {
	x0 := []int{100}
	w := group(0)
	checkFind(t, w.t, eqOf(w.s, "0 f0(f2(x0),f0(x0,x0))=x0"), []impl.Step{stepAt(0, true, 0, []int{2, 100}, x0, x0), stepAt(2, false, 1, x0), stepAt(1, false, 0, x0)}, true)
	checkFind(t, w.t, eqOf(w.s, "0 f0(f1,x0)=x0"), []impl.Step{stepAt(1, false, 0, x0)}, true)
	checkFind(t, w.t, eqOf(w.s, "0 x0=f0(f1,x0)"), []impl.Step{stepAt(1, true, 0, x0)}, true)
	checkFind(t, w.t, eqOf(w.s, "0 f1=f0(f2(x0),x0)"), nil, false)
	checkFind(t, w.t, eqOf(w.s, "00 f0(x0,x1)=f0(x1,x0)"), nil, false)
	checkFind(t, w.t, eqOf(w.s, "00 x0=x1"), nil, false)
	checkFind(t, w.t, eqOf(w.s, "00 x1=x1"), nil, true)
	checkFind(t, w.t, eqOf(w.s, " f2(f1)=f2(f1)"), nil, true)
	checkFind(t, worldOf("1:000,0,00", nil).t, eqOf(w.s, "0 f0(f1,x0)=x0"), nil, false)
	checkFind(t, worldOf("1:000,0,00", nil).t, eqOf(w.s, "0 f0(f1,x0)=f0(f1,x0)"), nil, true)
	// Of two ways to a term that which leads to it first, though it is the longer one in letters.
	both := worldOf("1:000,0,00", []int{0}, "0 f0(f1,x0)=x0", "0 f0(x0,f1)=x0", "00 f0(x0,x1)=f0(x1,x0)")
	checkFind(t, both.t, eqOf(both.s, " f0(f1,f1)=f1"), []impl.Step{stepAt(0, false, 0, []int{1})}, true)
	checkFind(t, both.t, eqOf(both.s, "0 f0(x0,f1)=f0(f1,x0)"), []impl.Step{stepAt(2, false, 0, x0, []int{1})}, true)
	checkFind(t, both.t, eqOf(both.s, "0 f0(f0(f1,x0),f1)=x0"), []impl.Step{stepAt(1, false, 0, []int{0, 1, 100}), stepAt(0, false, 0, x0)}, true)
}

// chainEq returns the equation of chains of f2 of so many numbers, and x0.
func chainEq(left, right int) impl.Eq {
	return impl.Eq{Vars: []int{0}, Left: chain(left, 100), Right: chain(right, 100)}
}

func TestFoundTermsOfMoreThan12Numbers(t *testing.T) {
	grows := worldOf("1:000,0,00", []int{0}, "0 x0=f2(x0)")
	for right := 1; right <= 14; right++ {
		want, _ := findByHand(grows.t, chainEq(1, right))
		if right <= 12 && len(want) != right-1 {
			t.Fatal(right, want)
		}
		checkFind(t, grows.t, chainEq(1, right), want, right <= 12)
	}
	shrinks := worldOf("1:000,0,00", []int{0}, "0 f2(f2(x0))=f2(x0)")
	pairs := worldOf("1:000,0,00", []int{0}, "0 f2(f2(f2(x0)))=f2(x0)")
	for _, c := range []struct {
		w           world
		left, right int
		ok          bool
	}{
		// Left may have more numbers, and the terms behind it may not, Right neither.
		{shrinks, 13, 12, true}, {shrinks, 14, 13, false}, {shrinks, 14, 12, false}, {shrinks, 12, 13, false}, {shrinks, 13, 2, true}, {shrinks, 12, 2, true},
		{pairs, 14, 12, true}, {pairs, 15, 13, false}, {pairs, 15, 11, false}, {pairs, 14, 2, true}, {pairs, 30, 28, false},
		// A term and itself, whatever it has.
		{shrinks, 13, 13, true}, {shrinks, 30, 30, true}, {shrinks, 31, 31, false},
	} {
		want, wantOk := findByHand(c.w.t, chainEq(c.left, c.right))
		if wantOk != c.ok {
			t.Fatal(c, want)
		}
		checkFind(t, c.w.t, chainEq(c.left, c.right), want, c.ok)
	}
}

// No more than 150 terms are tried, the first one too.
func TestAtMost150TermsAreTried(t *testing.T) {
	signs := worldOf("1:000,0,00,00", []int{0, 0}, "0 x0=f2(x0)", "0 x0=f3(x0)")
	units := worldOf("1:000,0,00,00", []int{0, 0}, "0 x0=f0(f1,x0)", "00 f0(x0,x1)=f0(x1,x0)")
	orders := worldOf("1:000,0,00,00", []int{0, 0}, "00 f0(x0,x1)=f0(x1,x0)", "000 f0(f0(x0,x1),x2)=f0(x0,f0(x1,x2))")
	for i, w := range []world{signs, units, orders} {
		for _, text := range [][]string{{"x0", "f2(f1)", "f0(x0,x1)"}, {"x0", "f0(x0,x1)"}, {"f0(f0(x0,x1),f0(f1,f0(f2(x0),f2(x1))))"}}[i] {
			u := w.term(text)
			terms, proofs := spreadByHand(w.t, w.vars, u, 300)
			if len(terms) < 200 {
				t.Fatal("few terms", w, u, len(terms))
			}
			for _, i := range []int{0, 1, 2, 3, 10, 40, 90, 130, 147, 148, 149, 150, 151, 152, 199} {
				e := impl.Eq{Vars: w.vars, Left: u, Right: terms[i]}
				if i < 150 {
					checkFind(t, w.t, e, proofs[i], true)
				} else {
					checkFind(t, w.t, e, nil, false)
				}
			}
		}
	}
}

// A head goes over a row of signs, turns round at the end, and comes back, so that each term but the first one and the last one has one next one alone.
func TestFoundProofsOfAtMost20Steps(t *testing.T) {
	w := worldOf("1:00,00,00,00,00,0", nil, "0 f0(f2(x0))=f3(f0(x0))", " f0(f5)=f1(f5)", "0 f3(f1(x0))=f1(f4(x0))")
	u := []int{0, 2, 2, 2, 2, 2, 2, 2, 2, 2, 2, 5}
	terms, proofs := spreadByHand(w.t, nil, u, 150)
	if len(terms) != 22 || len(proofs[21]) != 21 {
		t.Fatal(terms)
	}
	for i := range terms {
		e := impl.Eq{Left: u, Right: terms[i]}
		if len(proofs[i]) != i {
			t.Fatal(i, proofs[i])
		}
		if i <= 20 {
			checkFind(t, w.t, e, proofs[i], true)
			checkFind(t, w.t, turned(e), backByHand(proofs[i]), true)
		} else {
			checkFind(t, w.t, e, nil, false)
			checkFind(t, w.t, turned(e), nil, false)
		}
	}
}
