package tests

import (
	"math"
	"math/rand"
	"slices"
	"testing"

	"loop.example/theorymodules/impl"
)

// checkHolds compares where an equation fails in a model, and whether it holds, with what the document tells, and reports whether it holds.
func checkHolds(t *testing.T, s impl.Sig, m impl.Model, e impl.Eq) bool {
	t.Helper()
	want, wantOk := failsByHand(s, m, e)
	got, ok := impl.FailsAt(s, m, e)
	wantRow(t, got, ok, want, wantOk, s, m, e)
	holds := impl.Holds(s, m, e)
	if holds != holdsByHand(s, m, e) {
		t.Fatal("got", holds, "for", s, m, e)
	}
	return holds
}

// modelEqs returns equations with the letters of a setting, and such without letters, by chance.
func modelEqs(r *rand.Rand, c setting, most int) []impl.Eq {
	return append(equationsFor(r, c, most), equationsFor(r, setting{c.s, nil}, most/3)...)
}

func TestP14WhereItFailsItFails(t *testing.T) {
	r := rand.New(rand.NewSource(65))
	seen := map[bool]int{}
	for _, c := range settings() {
		for _, e := range modelEqs(r, c, 30) {
			for _, m := range someModels(r, c.s, 4) {
				seen[checkFails(t, c.s, m, e)]++
			}
		}
	}
	if seen[true] < 1000 || seen[false] < 1000 {
		t.Fatal(seen)
	}
}

// checkFails looks for what rows of values the terms of an equation have different values, and whether the first of them is told; it reports whether there is one.
func checkFails(t *testing.T, s impl.Sig, m impl.Model, e impl.Eq) bool {
	t.Helper()
	fails := !checkHolds(t, s, m, e)
	first, ok := impl.FailsAt(s, m, e)
	if ok != fails {
		t.Fatal("it fails and holds, or none of both", s, m, e, ok)
	}
	for _, values := range allRows(sizesByHand(m, e.Vars)) {
		different := impl.ValueOf(s, m, e.Vars, e.Left, values) != impl.ValueOf(s, m, e.Vars, e.Right, values)
		if ok && sameRow(values, first) {
			if !different || !impl.ValuesOk(s, m, e.Vars, first) {
				t.Fatal("the same values", s, m, e, first)
			}
			return fails
		}
		if different {
			t.Fatal("fails before", s, m, e, values, first, ok)
		}
	}
	if fails {
		t.Fatal("not one of the rows", s, m, e, first)
	}
	return fails
}

// failCase is an equation, and where it fails in a model; no bool if it does not.
type failCase struct {
	text string
	at   []int
	ok   bool
}

// checkFailCases compares where equations fail in a model.
func checkFailCases(t *testing.T, s impl.Sig, m impl.Model, list []failCase) {
	t.Helper()
	for _, c := range list {
		e := eqOf(s, c.text)
		got, ok := impl.FailsAt(s, m, e)
		wantRow(t, got, ok, c.at, c.ok, m, c)
		if impl.Holds(s, m, e) == c.ok || impl.Holds(s, m, turned(e)) == c.ok {
			t.Fatal("holds", m, c)
		}
		got, ok = impl.FailsAt(s, m, turned(e))
		wantRow(t, got, ok, c.at, c.ok, "turned", m, c)
	}
}

func TestEquationsOfOneSortThatFail(t *testing.T) {
	s := sigOf("1:000,0,00")
	known := knownModels()
	checkFailCases(t, s, known[0], []failCase{
		{"00 f0(x0,x1)=f0(x1,x0)", nil, false},
		{"0 f0(x0,x0)=x0", []int{1}, true},
		{"0 f0(x0,x0)=f1", nil, false},
		{"000 f0(f0(x0,x1),x2)=f0(x0,f0(x1,x2))", nil, false},
		{"00 x0=x1", []int{0, 1}, true},
		{"000 x0=x2", []int{0, 0, 1}, true},
		{"0000 x1=x2", []int{0, 0, 1, 0}, true},
		{"0000 x0=x3", []int{0, 0, 0, 1}, true},
		{"00 f0(x0,x1)=x1", []int{1, 0}, true},
		{"00 f0(x0,x1)=x0", []int{0, 1}, true},
		{"000 f0(x0,x1)=f1", []int{0, 1, 0}, true},
		{" f0(f1,f1)=f1", nil, false},
		{" f1=f1", nil, false},
		{"0000 f1=f2(f1)", nil, false},
	})
	checkFailCases(t, s, known[1], []failCase{
		{"0 f2(f2(x0))=x0", nil, false},
		{"0 f2(x0)=x0", []int{1}, true},
		{"0 f0(x0,x0)=f2(x0)", nil, false},
		{"00 f0(x0,f2(x1))=f0(x1,f2(x0))", []int{0, 1}, true},
		{"0 f0(x0,f0(x0,x0))=f1", nil, false},
	})
	checkFailCases(t, s, known[3], []failCase{
		{"00 f0(x0,x1)=f0(x1,x0)", nil, false},
		{"0 f0(x0,x0)=x0", nil, false},
		{"0 f2(f2(x0))=x0", nil, false},
		{"0 f0(f1,x0)=x0", nil, false},
		{"0 f2(x0)=x0", []int{0}, true},
		{"0 f0(x0,f2(x0))=f2(f1)", []int{1}, true},
		{"0 f1=x0", []int{0}, true},
		{"00 f2(f0(x0,x1))=f0(f2(x0),f2(x1))", []int{0, 1}, true},
		{"00 f2(f0(x0,f2(x1)))=f2(f0(f2(x1),x0))", nil, false},
		// Without letters.
		{" f2(f1)=f1", []int{}, true},
		{" f2(f2(f1))=f1", nil, false},
		{"000 f2(f1)=f1", []int{0, 0, 0}, true},
	})
	checkFailCases(t, s, known[5], []failCase{
		{"00 f0(x0,x1)=f0(x1,x0)", []int{0, 1}, true},
		{"0 f0(x0,x0)=x0", []int{0}, true},
		{"0 f2(f2(x0))=x0", []int{0}, true},
		{"0 f2(f2(x0))=f2(x0)", []int{0}, true},
		{"0 f2(f2(f2(x0)))=f2(f2(x0))", nil, false},
		{"00 f0(f1,x0)=f0(f1,x1)", []int{0, 2}, true},
		{"00 f0(x0,f1)=f0(x1,f1)", []int{0, 1}, true},
		{"00 f0(x1,f1)=f0(x0,f1)", []int{0, 1}, true},
		{"000 f0(x1,x2)=f0(x1,f2(x2))", []int{0, 0, 0}, true},
	})
	// Where there is one value, all hold.
	checkFailCases(t, s, oneValue(s), []failCase{
		{" f1=f2(f1)", nil, false},
		{"0000 x0=x3", nil, false},
		{"0 f0(x0,x0)=f1", nil, false},
	})
}

func TestEquationsOfMoreSortsThatFail(t *testing.T) {
	s := sigOf("3:010,01,1,0,2,22")
	m := modelOf([]int{2, 3, 1}, []int{1, 0, 1, 0, 0, 1}, []int{2, 0}, []int{1}, []int{1}, []int{0}, []int{0})
	checkFailCases(t, s, m, []failCase{
		// The last letters change first, each up to the size of its sort.
		{"01 x0=f3", []int{0, 0}, true},
		{"01 x1=f2", []int{0, 0}, true},
		{"01 f0(x0,x1)=x0", []int{0, 0}, true},
		{"01 f0(x0,x1)=f0(f0(x0,x1),x1)", []int{0, 0}, true},
		{"10 f0(x1,x0)=x1", []int{0, 0}, true},
		{"01 f0(x0,f1(x0))=f0(f3,f1(f3))", []int{0, 0}, true},
		{"011 f0(x0,x1)=f0(x0,x2)", []int{0, 0, 1}, true},
		{"011 f0(f3,x1)=f0(f3,x2)", []int{0, 0, 2}, true},
		{"101 f0(f3,x0)=f0(f3,x2)", []int{0, 0, 2}, true},
		{"101 f0(f3,f2)=f0(f3,x2)", []int{0, 0, 2}, true},
		{"110 f0(x2,f2)=f0(x2,x1)", []int{0, 0, 0}, true},
		{"11 f0(f3,x0)=f0(f3,x1)", []int{0, 2}, true},
		{"0101 f0(x2,x1)=f0(x2,x3)", []int{0, 0, 0, 1}, true},
		{"1001 f0(x2,x3)=f0(x1,x3)", []int{0, 0, 1, 0}, true},
		{"001 f0(x0,f2)=f3", []int{0, 0, 0}, true},
		{"001 f0(x1,f2)=f0(f3,f2)", nil, false},
		{"01 f1(x0)=f1(f0(x0,x1))", []int{0, 0}, true},
		// A sort of one value.
		{"22 x0=x1", nil, false},
		{"2 x0=f4", nil, false},
		{"2 f5(f5(x0))=x0", nil, false},
		{" f5(f4)=f4", nil, false},
		// Letters of a sort of one value beside others.
		{"212 f0(f3,x1)=f0(f3,f2)", []int{0, 2, 0}, true},
		{"2021 f0(x1,x3)=x1", []int{0, 0, 0, 0}, true},
		{"202 f1(x1)=f2", []int{0, 0, 0}, true},
		{"2021 f0(f0(x1,f2),x3)=f0(f0(f3,f2),x3)", nil, false},
		// Without letters, and with such that do not stand in the terms.
		{" f0(f3,f2)=f3", []int{}, true},
		{" f0(f0(f3,f2),f2)=f0(f3,f2)", nil, false},
		{" f1(f3)=f2", []int{}, true},
		{" f0(f3,f1(f3))=f0(f3,f2)", nil, false},
		{"0121 f0(f3,f2)=f3", []int{0, 0, 0, 0}, true},
	})
	// All values of a letter before the last one, and the last one.
	only := modelOf([]int{3, 1, 1}, []int{0, 1, 1}, []int{0, 0, 0}, []int{0}, []int{2}, []int{0}, []int{0})
	checkFailCases(t, s, only, []failCase{
		{"01 f0(x0,x1)=x0", []int{2, 0}, true},
		{"0101 f0(x0,x1)=x0", []int{2, 0, 0, 0}, true},
		{"0101 f0(x2,x1)=x2", []int{0, 0, 2, 0}, true},
		{"000 f0(x2,f2)=x2", []int{0, 0, 2}, true},
		{"0000 f0(x0,f2)=f0(x0,f1(x1))", nil, false},
		{"1 f0(f3,x0)=f0(f0(f3,x0),x0)", nil, false},
		{"1 f0(f3,x0)=f3", []int{0}, true},
	})
}

// badEqs returns what is no equation over 2:010,01,1,0, with letters of both sorts.
func badEqs() []impl.Eq {
	row, vars := []int{0, 100, 101}, []int{0, 1}
	list := []impl.Eq{
		{},
		{Vars: vars},
		{Vars: vars, Left: row},
		{Vars: vars, Right: row},
		{Vars: vars, Left: row, Right: []int{101}},
		{Vars: vars, Left: row, Right: []int{2}},
		{Vars: vars, Left: row, Right: []int{102}},
		{Vars: vars, Left: row, Right: []int{0, 100}},
		{Vars: vars, Left: []int{4}, Right: []int{4}},
		{Vars: vars, Left: []int{-1}, Right: []int{-1}},
		{Vars: vars, Left: []int{0, 101, 100}, Right: []int{0, 101, 100}},
		{Vars: vars, Left: []int{math.MaxInt}, Right: []int{math.MaxInt}},
		{Vars: vars, Left: []int{math.MinInt}, Right: []int{math.MinInt}},
		{Left: row, Right: row},
		{Vars: []int{0}, Left: row, Right: row},
	}
	for _, bad := range badVars(2) {
		list = append(list, impl.Eq{Vars: bad, Left: []int{2}, Right: []int{2}}, impl.Eq{Vars: bad, Left: []int{100}, Right: []int{100}})
	}
	return list
}

func TestEquationsOfWhatIsNotOk(t *testing.T) {
	s := sigOf("2:010,01,1,0")
	m := modelOf([]int{2, 3}, []int{1, 0, 1, 0, 0, 1}, []int{2, 0}, []int{1}, []int{1})
	none := func(s impl.Sig, m impl.Model, e impl.Eq) {
		t.Helper()
		for _, e := range []impl.Eq{e, turned(e)} {
			values, ok := impl.FailsAt(s, m, e)
			wantRow(t, values, ok, nil, false, s, m, e)
			if impl.Holds(s, m, e) {
				t.Fatal("holds", s, m, e)
			}
		}
	}
	for _, bad := range badEqs() {
		none(s, m, bad)
		none(s, oneValue(s), bad)
		none(s, impl.Model{}, bad)
	}
	good := []impl.Eq{eqOf(s, "0 x0=x0"), eqOf(s, "01 f0(x0,x1)=x0"), eqOf(s, " f2=f2"), eqOf(s, " f1(f3)=f2"), eqOf(s, "1 x0=f2")}
	for _, e := range good {
		for _, bad := range append(badModels(s, m), badModels(s, oneValue(s))...) {
			none(s, bad, e)
		}
		// A model of another signature.
		for _, other := range []impl.Model{oneValue(sigOf("1:")), oneValue(sigOf("2:")), oneValue(sigOf("2:010,01,1")), modelOf([]int{3, 2}, m.Tables...), knownModels()[0]} {
			none(s, other, e)
		}
		for _, bad := range invalidSigs() {
			none(bad, m, e)
			none(bad, oneValue(bad), e)
			none(bad, impl.Model{}, e)
		}
	}
	for _, bad := range invalidSigs() {
		none(bad, oneValue(bad), impl.Eq{Vars: []int{0}, Left: []int{100}, Right: []int{100}})
		none(bad, oneValue(bad), impl.Eq{Left: []int{0}, Right: []int{0}})
	}
}

func TestP68EverythingHoldsWhereThereIsOneValue(t *testing.T) {
	r := rand.New(rand.NewSource(66))
	seen := map[bool]int{}
	for _, c := range settings() {
		one := oneValue(c.s)
		for _, e := range modelEqs(r, c, 30) {
			if !checkHolds(t, c.s, one, e) || !checkHolds(t, c.s, one, turned(e)) {
				t.Fatal("fails", c, e)
			}
			for _, m := range someModels(r, c.s, 2) {
				holds := checkHolds(t, c.s, m, e)
				if checkHolds(t, c.s, m, turned(e)) != holds {
					t.Fatal("turned", c, m, e, holds)
				}
				seen[holds]++
				for _, side := range [][]int{e.Left, e.Right} {
					if !checkHolds(t, c.s, m, impl.Eq{Vars: e.Vars, Left: side, Right: side}) {
						t.Fatal("a term and itself", c, m, side)
					}
				}
			}
		}
	}
	if seen[true] < 500 || seen[false] < 500 {
		t.Fatal(seen)
	}
}

// modelsFor returns models of the axioms of a theory, the one in which each sort has one value and such that are found by chance, up to so many.
func modelsFor(r *rand.Rand, t impl.Theory, most int) []impl.Model {
	list := []impl.Model{oneValue(t.Over)}
	if sameSig(t.Over, sigOf("1:000,0,00")) {
		list = append(list, knownModels()...)
	}
	for range 40 * most {
		list = append(list, randomModel(r, t.Over, randomSizes(r, t.Over.Sorts, 2+r.Intn(2))))
	}
	var hold []impl.Model
	for _, m := range list {
		if len(hold) < most && isModelByHand(t, m) {
			hold = append(hold, m)
		}
	}
	return hold
}

func TestP15WhatIsProvedHolds(t *testing.T) {
	r := rand.New(rand.NewSource(67))
	proved := 0
	for i, w := range worlds() {
		list := w.pool(int64(i+4300), 12)
		models := modelsFor(r, w.t, 8)
		for _, m := range models {
			if !impl.IsModel(w.t, m) {
				t.Fatal("no model", w, m)
			}
		}
		for _, u := range list {
			steps, e := w.walk(r, u, 1+r.Intn(8), list)
			if !impl.ProofOk(w.t, e, steps) {
				t.Fatal("no proof", w, e, steps)
			}
			for _, m := range models {
				if !checkHolds(t, w.s, m, e) || !checkHolds(t, w.s, m, turned(e)) {
					t.Fatal("proved, and fails", w, m, e, steps)
				}
				if slices.Max(m.Sizes) > 1 && !sameRow(e.Left, e.Right) {
					proved++
				}
			}
		}
	}
	if proved < 300 {
		t.Fatal(proved)
	}
}

// Of any model it is told whether all axioms hold: it is one of the axioms exactly if it is one of each theory of one of them.
func TestModelsOfAxioms(t *testing.T) {
	r := rand.New(rand.NewSource(68))
	seen := map[bool]int{}
	for _, w := range worlds() {
		for _, m := range append(someModels(r, w.s, 40), modelsFor(r, w.t, 4)...) {
			got, each := impl.IsModel(w.t, m), true
			for _, e := range w.t.Axioms {
				each = each && impl.Holds(w.s, m, e)
			}
			if got != each || got != isModelByHand(w.t, m) {
				t.Fatal(w, m, got)
			}
			seen[got]++
			// Without axioms each model is one.
			if !impl.IsModel(withAxioms(w.t), m) {
				t.Fatal("without axioms", w, m)
			}
		}
		for _, m := range someModels(r, w.s, 2) {
			for _, bad := range badModels(w.s, m) {
				if impl.IsModel(w.t, bad) || impl.IsModel(withAxioms(w.t), bad) {
					t.Fatal("taken", w, bad)
				}
			}
		}
	}
	if seen[true] < 300 || seen[false] < 300 {
		t.Fatal(seen)
	}
}

func TestOneAxiomThatFails(t *testing.T) {
	w := group()
	for _, m := range knownModels()[:3] {
		if !impl.IsModel(w.t, m) {
			t.Fatal("no group", m)
		}
	}
	for _, m := range knownModels()[3:] {
		if impl.IsModel(w.t, m) {
			t.Fatal("a group", m)
		}
	}
	three := knownModels()[1]
	good := []impl.Eq{w.t.Axioms[0], w.t.Axioms[1], w.t.Axioms[2], eqOf(w.s, "00 f0(x0,x1)=f0(x1,x0)"), eqOf(w.s, " f2(f1)=f1"), eqOf(w.s, "0 f2(f2(x0))=x0")}
	for _, text := range []string{"0 f2(x0)=x0", "00 x0=x1", "0 f0(x0,x0)=x0", "0 x0=f1", "0 f2(f0(x0,x0))=f1"} {
		bad := eqOf(w.s, text)
		for many := range 6 {
			if !impl.IsModel(withAxioms(w.t, good[:many]...), three) {
				t.Fatal("all hold", many)
			}
			// From the first one to the last one, and twice.
			for at := range many + 1 {
				axioms := slices.Insert(slices.Clone(good[:many]), at, bad)
				if impl.IsModel(withAxioms(w.t, axioms...), three) {
					t.Fatal("one fails", many, at, text)
				}
				axioms[0], axioms[many] = bad, bad
				if impl.IsModel(withAxioms(w.t, axioms...), three) {
					t.Fatal("two fail", many, at, text)
				}
			}
		}
	}
	if !impl.IsModel(withAxioms(w.t, good...), three) {
		t.Fatal("six hold")
	}
	// An axiom without letters that fails.
	other := knownModels()[3]
	if impl.IsModel(withAxioms(w.t, eqOf(w.s, " f2(f1)=f1")), other) || !impl.IsModel(withAxioms(w.t, eqOf(w.s, " f2(f2(f1))=f1")), other) || impl.IsModel(withAxioms(w.t, eqOf(w.s, " f2(f2(f1))=f1"), eqOf(w.s, " f2(f1)=f1")), other) {
		t.Fatal("without letters")
	}
}

func TestModelsOfTheoriesThatAreNotOk(t *testing.T) {
	for _, bad := range badTheories() {
		for _, m := range append(knownModels(), oneValue(sigOf("1:000,0,00")), oneValue(bad.Over), impl.Model{}) {
			if impl.IsModel(bad, m) {
				t.Fatal("taken", bad, m)
			}
		}
	}
	s := sigOf("2:010,01,1,0")
	for _, bad := range badEqs() {
		for _, axioms := range [][]impl.Eq{{bad}, {eqOf(s, "0 x0=x0"), bad}, {bad, eqOf(s, "0 x0=x0")}} {
			if impl.IsModel(impl.Theory{Over: s, Axioms: axioms}, oneValue(s)) {
				t.Fatal("taken", axioms)
			}
		}
	}
	// Six axioms, and seven.
	w := group()
	for many := range 9 {
		if impl.IsModel(withAxioms(w.t, slices.Repeat(w.t.Axioms[:1], many)...), knownModels()[0]) != (many <= 6) {
			t.Fatal(many, "axioms")
		}
	}
}
