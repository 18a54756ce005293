package tests

import (
	"math"
	"math/rand"
	"slices"
	"testing"

	"loop.example/theorymodules/impl"
)

// checkFailsAlone looks whether all other axioms hold in the model that is told for an axiom, and this one fails; it reports whether one is told.
func checkFailsAlone(t *testing.T, theory impl.Theory, k int) bool {
	t.Helper()
	m, ok := checkAlone(t, theory, k)
	if !ok {
		return false
	}
	for i, e := range theory.Axioms {
		if impl.Holds(theory.Over, m, e) != (i != k) {
			t.Fatal("not alone", theory, k, m, i)
		}
	}
	if !impl.IsModel(without(theory, k), m) || impl.IsModel(theory, m) {
		t.Fatal("no model of the others, or one of all", theory, k, m)
	}
	return true
}

func TestP36AxiomsThatStandAloneFailAlone(t *testing.T) {
	seen := map[bool]int{}
	for _, theory := range append(smallTheories(340, 300), worldTheories()...) {
		for k := range theory.Axioms {
			alone := checkFailsAlone(t, theory, k)
			seen[alone]++
			// By the others alone it is not proved.
			if _, proved := impl.ProofFind(without(theory, k), theory.Axioms[k]); proved && alone {
				t.Fatal("proved", theory, k)
			}
		}
		checkNoNumbers(t, theory)
	}
	wantSeen(t, seen, 2, 100)
}

// checkNoNumbers looks whether nothing is told for numbers that no axiom has.
func checkNoNumbers(t *testing.T, theory impl.Theory) {
	t.Helper()
	many := len(theory.Axioms)
	for _, k := range []int{-1, -2, many, many + 1, 6, 7, 100, math.MaxInt, math.MinInt, -many} {
		if k >= 0 && k < many {
			continue
		}
		m, ok := impl.AxiomAlone(theory, k)
		wantModel(t, m, ok, impl.Model{}, false, theory, k)
	}
}

// An axiom that follows from the others, as it is one of them, turned or not, or proved by them, does not fail alone; nor does one of which both sides are the same.
func TestP36WhatFollowsDoesNotStandAlone(t *testing.T) {
	r := rand.New(rand.NewSource(341))
	none := func(theory impl.Theory, k int) {
		t.Helper()
		if checkFailsAlone(t, theory, k) {
			t.Fatal("alone", theory, k)
		}
	}
	for _, theory := range smallTheories(342, 100) {
		w := world{setting{theory.Over, randomVars(r, theory.Over.Sorts)}, theory}
		pool := w.pool(r.Int63(), 8)
		for k, e := range theory.Axioms {
			at := r.Intn(len(theory.Axioms) + 1)
			twice := withAxioms(theory, slices.Insert(slices.Clone(theory.Axioms), at, e)...)
			none(twice, at)
			if at <= k {
				none(twice, k+1)
			} else {
				none(twice, k)
			}
			none(withAxioms(theory, slices.Insert(slices.Clone(theory.Axioms), at, turned(e))...), at)
		}
		for _, u := range pool {
			_, e := w.walk(r, u, r.Intn(5), pool)
			at := r.Intn(len(theory.Axioms) + 1)
			none(withAxioms(theory, slices.Insert(slices.Clone(theory.Axioms), at, e)...), at)
		}
	}
}

// aloneCase is a theory, the number of an axiom, and the model in which it fails alone; no sizes if there is none.
type aloneCase struct {
	theory impl.Theory
	k      int
	want   impl.Model
}

func TestAxiomsThatStandAlone(t *testing.T) {
	assoc, turn, same := "000 f0(f0(x0,x1),x2)=f0(x0,f0(x1,x2))", "00 f0(x0,x1)=f0(x1,x0)", "0 f0(x0,x0)=x0"
	left, right := "0 f0(f1,x0)=x0", "0 f0(x0,f1)=x0"
	half, none := known("1:000", assoc, turn, same), impl.Model{}
	six := slices.Repeat([]string{"0 x0=x0"}, 5)
	for _, c := range []aloneCase{
		// All idempotent ones of two values that may be turned are associative.
		{half, 0, none},
		{half, 1, modelOf([]int{2}, []int{0, 0, 1, 1})},
		{half, 2, modelOf([]int{2}, []int{0, 0, 0, 0})},
		{group().t, 0, modelOf([]int{2}, []int{0, 1, 0, 0}, []int{0}, []int{0, 1})},
		{group().t, 1, modelOf([]int{2}, []int{0, 0, 0, 0}, []int{0}, []int{0, 0})},
		{group().t, 2, modelOf([]int{2}, []int{0, 0, 0, 1}, []int{1}, []int{0, 0})},
		// By turning it both are the same, and with the other order of axioms others are alone.
		{known("1:000,0", left, right, turn), 0, none},
		{known("1:000,0", left, right, turn), 1, none},
		{known("1:000,0", left, right, turn), 2, none},
		{known("1:000,0", left, turn), 1, modelOf([]int{2}, []int{0, 1, 0, 0}, []int{0})},
		{known("1:000,0", turn, left), 1, modelOf([]int{2}, []int{0, 0, 0, 0}, []int{0})},
		{known("1:000,0", turn, left), 0, modelOf([]int{2}, []int{0, 1, 0, 0}, []int{0})},
		// One axiom alone: a model in which it fails, whatever else.
		{known("1:000", assoc), 0, modelOf([]int{2}, []int{0, 0, 1, 0})},
		{known("1:000", same), 0, modelOf([]int{2}, []int{0, 0, 0, 0})},
		{known("1:", "00 x0=x1"), 0, modelOf([]int{2})},
		{known("1:", "00 x1=x1"), 0, none},
		{known("1:0,0", " f1=f0"), 0, modelOf([]int{2}, []int{0}, []int{1})},
		{known("2:", "11 x0=x1"), 0, modelOf([]int{1, 2})},
		{known("2:", "11 x0=x1", "00 x0=x1"), 0, modelOf([]int{1, 2})},
		{known("2:", "11 x0=x1", "00 x0=x1"), 1, modelOf([]int{2, 1})},
		{known("3:", "11 x0=x1", "00 x0=x1", "22 x0=x1"), 2, modelOf([]int{1, 1, 2})},
		{known("2:01", "11 x0=x1", "00 f0(x0)=f0(x1)"), 1, none},
		{known("2:01", "11 x0=x1", "00 f0(x0)=f0(x1)"), 0, modelOf([]int{1, 2}, []int{0})},
		// Two that are the same, and one of which the sides are exchanged.
		{known("1:000", same, same), 0, none},
		{known("1:000", same, same), 1, none},
		{known("1:000", same, "0 x0=f0(x0,x0)", turn), 0, none},
		{known("1:000", same, "0 x0=f0(x0,x0)", turn), 2, modelOf([]int{2}, []int{0, 0, 1, 1})},
		{known("1:000", same, "00 f0(x1,x1)=x1", turn), 0, none},
		// As many axioms as there may be.
		{known("1:00", append(six, "0 f0(x0)=x0")...), 5, modelOf([]int{2}, []int{0, 0})},
		{known("1:00", append(six, "0 f0(x0)=x0")...), 4, none},
		{known("1:00", append([]string{"0 f0(x0)=x0"}, six...)...), 0, modelOf([]int{2}, []int{0, 0})},
		// There are greater models in which it fails alone, and too many of two values.
		{known("1:00", "0 f0(f0(f0(x0)))=x0", "0 f0(x0)=x0"), 1, none},
		{known("1:000,000,000", "00 f0(x0,x1)=f1(x0,x1)"), 0, none},
	} {
		m, ok := impl.AxiomAlone(c.theory, c.k)
		wantModel(t, m, ok, c.want, len(c.want.Sizes) > 0, c)
		checkFailsAlone(t, c.theory, c.k)
		checkNoNumbers(t, c.theory)
	}
	checkNoNumbers(t, known("1:"))
	checkNoNumbers(t, known("3:012,2"))
}

func TestAxiomsOfNoTheoriesDoNotStandAlone(t *testing.T) {
	none := func(theory impl.Theory) {
		t.Helper()
		for k := -1; k <= 8; k++ {
			m, ok := impl.AxiomAlone(theory, k)
			wantModel(t, m, ok, impl.Model{}, false, theory, k)
		}
	}
	for _, bad := range badTheories() {
		none(bad)
	}
	for _, s := range []impl.Sig{sigOf("1:"), sigOf("1:000"), sigOf("2:01"), sigOf("3:")} {
		for _, axioms := range badAxioms(s) {
			none(impl.Theory{Over: s, Axioms: axioms})
			// Without the axiom that is asked for the others are a theory.
			none(impl.Theory{Over: s, Axioms: append(slices.Clone(axioms), impl.Eq{Vars: []int{0, 0}, Left: []int{100}, Right: []int{101}})})
		}
		fails := impl.Eq{Vars: []int{0, 0}, Left: []int{100}, Right: []int{101}}
		same := impl.Eq{Vars: []int{0}, Left: []int{100}, Right: []int{100}}
		none(impl.Theory{Over: s, Axioms: append(slices.Repeat([]impl.Eq{same}, 6), fails)})
	}
	none(impl.Theory{})
}
