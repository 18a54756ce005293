package tests

import (
	"math/rand"
	"testing"

	"loop.example/theorymodules/impl"
)

// checkTold looks whether what is told of an equation is right, for some models that are all that there are of the axioms with sizes of 1 and 2: 1 just if a proof is found, and then it holds in all of them, 0 just if it fails in one of them, and never 0 with its sides exchanged where it is 1. It returns what is told of it, and with its sides exchanged.
func checkTold(t *testing.T, theory impl.Theory, e impl.Eq, models []impl.Model) (int, int) {
	t.Helper()
	_, fails := failsAmong(theory.Over, e, models)
	told := [2]int{}
	for i, e := range []impl.Eq{e, turned(e)} {
		told[i] = impl.Decided(theory, e)
		_, proved := impl.ProofFind(theory, e)
		if (told[i] == 1) != proved || (told[i] == 0) != fails || told[i] < 0 || told[i] > 2 {
			t.Fatal("not right", theory, e, told, fails, proved)
		}
	}
	if told[0]+told[1] == 1 {
		t.Fatal("one way it holds, and one way it fails", theory, e, told)
	}
	return told[0], told[1]
}

func TestP37WhatIsToldIsRight(t *testing.T) {
	seen := map[int]int{}
	for i, theory := range append(smallTheories(350, 100), worldTheories()...) {
		r := rand.New(rand.NewSource(int64(i + 5400)))
		models := smallOnes(theory)
		for _, m := range models {
			if !impl.IsModel(theory, m) {
				t.Fatal("no model", theory, m)
			}
		}
		for _, e := range append(searchEqs(r, theory, 3), theory.Axioms...) {
			told, back := checkTold(t, theory, e, models)
			seen[told]++
			seen[back]++
			for _, side := range [][]int{e.Left, e.Right} {
				if told := impl.Decided(theory, impl.Eq{Vars: e.Vars, Left: side, Right: side}); told != 1 {
					t.Fatal("a term and itself", theory, e, told)
				}
			}
		}
	}
	wantSeen(t, seen, 3, 100)
}

// Without axioms an equation is told to hold just if its sides are the same; and to fail wherever it fails in a model that is gone through.
func TestP37WithoutAxioms(t *testing.T) {
	seen := map[int]int{}
	for i, theory := range smallTheories(351, 60) {
		theory.Axioms = nil
		r := rand.New(rand.NewSource(int64(i + 5500)))
		models := smallOnes(theory)
		for _, e := range searchEqs(r, theory, 10) {
			told, back := checkTold(t, theory, e, models)
			if (told == 1) != sameRow(e.Left, e.Right) || told != back {
				t.Fatal(theory, e, told, back)
			}
			seen[told]++
		}
	}
	if seen[1] < 50 || seen[0] < 300 {
		t.Fatal(seen)
	}
}

func TestWhatIsToldOfEquations(t *testing.T) {
	assoc, turn, same := "000 f0(f0(x0,x1),x2)=f0(x0,f0(x1,x2))", "00 f0(x0,x1)=f0(x1,x0)", "0 f0(x0,x0)=x0"
	half, left := known("1:000", assoc, turn, same), known("1:000", "00 f0(x0,x1)=x0")
	for _, c := range []struct {
		theory     impl.Theory
		text       string
		told, back int
	}{
		{half, "00 f0(x0,f0(x0,x1))=f0(x0,x1)", 1, 1},
		{half, "00 f0(x0,x1)=x0", 0, 0},
		{half, assoc, 1, 1},
		{half, "00 x0=x1", 0, 0},
		{left, "00 f0(f0(x0,x1),x0)=x0", 1, 2},
		{left, "00 f0(x0,x1)=x1", 0, 0},
		{known("1:000", same), turn, 0, 0},
		{known("1:000", turn), turn, 1, 1},
		// Letters that would have to be put there are not found, so that it is told one way alone.
		{group().t, "0 f0(f2(x0),x0)=f1", 1, 2},
		{group().t, "0 f1=f0(f2(x0),x0)", 2, 1},
		{group().t, "0 f0(f2(x0),f0(x0,x0))=x0", 1, 2},
		{group().t, turn, 2, 2},
		{group().t, "0 f0(x0,x0)=x0", 0, 0},
		{group().t, "0 f0(x0,x0)=f1", 2, 2},
		// It fails in greater models alone, or follows by a proof that is not found.
		{known("1:00", "0 f0(f0(f0(x0)))=x0"), "0 f0(x0)=x0", 2, 2},
		{known("1:00", "0 f0(f0(f0(x0)))=x0"), "0 f0(f0(f0(f0(x0))))=f0(x0)", 1, 1},
		{known("1:00", "0 f0(f0(x0))=x0"), "0 f0(x0)=x0", 0, 0},
		{known("1:000,000,000"), "00 f0(x0,x1)=f1(x0,x1)", 2, 2},
		{known("1:000,000,000"), "00 f0(x0,x1)=f0(x0,x1)", 1, 1},
		{known("1:000,000,000", "00 f0(x0,x1)=f1(x1,x0)"), "00 f1(x0,x1)=f0(x1,x0)", 1, 1},
		{known("1:", "00 x0=x1"), "00 x1=x0", 2, 2},
		{known("1:", "00 x0=x1"), "00 x0=x0", 1, 1},
		// Without axioms.
		{known("1:"), "00 x0=x1", 0, 0},
		{known("1:"), "0 x0=x0", 1, 1},
		{known("3:"), "012 x2=x2", 1, 1},
		{known("3:"), "212 x2=x0", 0, 0},
		{known("1:000,0,00"), " f1=f2(f1)", 0, 0},
		{known("1:000,0,00"), " f1=f1", 1, 1},
		{known("1:000,0,00"), assoc, 0, 0},
		{known("2:01,10"), "0 f1(f0(x0))=x0", 0, 0},
		{known("2:01", "00 f0(x0)=f0(x1)"), "00 f0(x1)=f0(x0)", 2, 2},
		{known("2:01", "11 x0=x1"), "00 f0(x0)=f0(x1)", 2, 2},
	} {
		e := eqOf(c.theory.Over, c.text)
		if told, back := checkTold(t, c.theory, e, smallOnes(c.theory)); told != c.told || back != c.back {
			t.Fatal(c, told, back)
		}
		checkDecided(t, c.theory, e)
	}
}
