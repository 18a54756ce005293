package tests

import (
	"math"
	"math/rand"
	"testing"

	"loop.example/theorymodules/impl"
)

// The table of constants of the document.
func TestConstantsOfProofs(t *testing.T) {
	if impl.MaxAxioms != 6 || impl.MaxSteps != 20 || impl.MaxTried != 150 {
		t.Fatal(impl.MaxAxioms, impl.MaxSteps, impl.MaxTried)
	}
}

func TestP55EquationsCanBeTurned(t *testing.T) {
	r := rand.New(rand.NewSource(21))
	for i, c := range settings() {
		list := c.pool(int64(i+1100), 40)
		for _, row := range list {
			if !impl.EqOk(c.s, impl.Eq{Vars: c.vars, Left: row, Right: row}) {
				t.Fatal("a term and itself", c, row)
			}
			for range 10 {
				e := impl.Eq{Vars: c.vars, Left: row, Right: anyTerm(r, list)}
				want := sortByHand(c.s, c.vars, e.Left) == sortByHand(c.s, c.vars, e.Right)
				if impl.EqOk(c.s, e) != want || impl.EqOk(c.s, turned(e)) != want {
					t.Fatal(c, e, want)
				}
			}
		}
	}
}

func TestEquations(t *testing.T) {
	s, two := sigOf("1:000,0,00"), sigOf("2:010,01,10,0,1")
	vars, mixed := []int{0, 0}, []int{1, 0}
	for _, c := range []struct {
		s    impl.Sig
		e    impl.Eq
		want bool
	}{
		{s, impl.Eq{Vars: vars, Left: []int{0, 100, 101}, Right: []int{0, 101, 100}}, true},
		{s, impl.Eq{Left: []int{1}, Right: []int{2, 1}}, true},
		{two, impl.Eq{Vars: mixed, Left: []int{1, 101}, Right: []int{100}}, true},
		{s, impl.Eq{Vars: vars, Left: chain(30, 1), Right: chain(30, 101)}, true},
		// Sides that are a letter alone.
		{s, impl.Eq{Vars: vars, Left: []int{100}, Right: []int{100}}, true},
		{s, impl.Eq{Vars: vars, Left: []int{100}, Right: []int{101}}, true},
		{s, impl.Eq{Vars: vars, Left: []int{1}, Right: []int{101}}, true},
		{sigOf("1:"), impl.Eq{Vars: vars, Left: []int{101}, Right: []int{100}}, true},
		{two, impl.Eq{Vars: mixed, Left: []int{100}, Right: []int{4}}, true},
		{s, impl.Eq{Vars: vars, Left: []int{102}, Right: []int{102}}, false},
		{s, impl.Eq{Vars: vars, Left: []int{100}, Right: []int{102}}, false},
		{s, impl.Eq{Left: []int{100}, Right: []int{100}}, false},
		// Sides of two sorts.
		{two, impl.Eq{Vars: mixed, Left: []int{100}, Right: []int{101}}, false},
		{two, impl.Eq{Vars: mixed, Left: []int{3}, Right: []int{4}}, false},
		{two, impl.Eq{Vars: mixed, Left: []int{1, 101}, Right: []int{101}}, false},
		// Sides that are no terms, one of them and both.
		{s, impl.Eq{Vars: vars, Left: []int{1}}, false},
		{s, impl.Eq{Vars: vars}, false},
		{s, impl.Eq{}, false},
		{s, impl.Eq{Vars: vars, Left: []int{1}, Right: []int{2}}, false},
		{s, impl.Eq{Vars: vars, Left: []int{2}, Right: []int{2}}, false},
		{s, impl.Eq{Vars: vars, Left: []int{1}, Right: []int{1, 1}}, false},
		{s, impl.Eq{Vars: vars, Left: []int{-1}, Right: []int{-1}}, false},
		{s, impl.Eq{Vars: vars, Left: []int{1}, Right: []int{math.MinInt}}, false},
		{s, impl.Eq{Vars: vars, Left: chain(31, 1), Right: chain(31, 1)}, false},
		{s, impl.Eq{Vars: vars, Left: chain(30, 1), Right: chain(31, 1)}, false},
		{two, impl.Eq{Vars: mixed, Left: []int{1, 100}, Right: []int{1, 100}}, false},
	} {
		if impl.EqOk(c.s, c.e) != c.want || impl.EqOk(c.s, turned(c.e)) != c.want {
			t.Fatal(c)
		}
	}
	for _, bad := range badVars(1) {
		if impl.EqOk(s, impl.Eq{Vars: bad, Left: []int{1}, Right: []int{1}}) {
			t.Fatal("letters that are not told", bad)
		}
	}
	for _, bad := range invalidSigs() {
		for _, row := range [][]int{{0}, {100}, nil} {
			if impl.EqOk(bad, impl.Eq{Vars: []int{0}, Left: row, Right: row}) || impl.EqOk(bad, impl.Eq{Left: row, Right: row}) {
				t.Fatal("a signature that is not valid", bad, row)
			}
		}
	}
}

func TestP56TheoriesMayHaveNoAxioms(t *testing.T) {
	for _, s := range validSigs() {
		if !impl.TheoryOk(impl.Theory{Over: s}) || !impl.TheoryOk(impl.Theory{Over: s, Axioms: []impl.Eq{}}) {
			t.Fatal("refused", s)
		}
	}
	for _, s := range invalidSigs() {
		if impl.TheoryOk(impl.Theory{Over: s}) || impl.TheoryOk(impl.Theory{Over: s, Axioms: []impl.Eq{}}) {
			t.Fatal("taken", s)
		}
	}
	for _, w := range worlds() {
		if !impl.TheoryOk(w.t) || !impl.TheoryOk(impl.Theory{Over: w.s}) {
			t.Fatal(w)
		}
	}
	for _, bad := range badTheories() {
		if impl.TheoryOk(bad) {
			t.Fatal("taken", bad)
		}
	}
}

func TestAxioms(t *testing.T) {
	s := sigOf("1:000,0,00")
	good := eqOf(s, "00 f0(x0,x1)=f0(x1,x0)")
	notOk := []impl.Eq{{}, {Vars: []int{0}, Left: []int{100}, Right: []int{101}}, {Vars: []int{1}, Left: []int{1}, Right: []int{1}}, {Left: []int{1}}, {Vars: make([]int, 5), Left: []int{1}, Right: []int{1}}}
	for many := range 10 {
		theory := impl.Theory{Over: s}
		for range many {
			theory.Axioms = append(theory.Axioms, good)
		}
		if impl.TheoryOk(theory) != (many <= 6) {
			t.Fatal(many, "axioms")
		}
		for i := range theory.Axioms {
			for _, bad := range notOk {
				theory.Axioms[i] = bad
				if impl.TheoryOk(theory) {
					t.Fatal("an axiom that is no equation", many, i, bad)
				}
			}
			theory.Axioms[i] = good
		}
		// What is an equation over one signature need not be one over another.
		if theory.Over = sigOf("2:010,01,10,0,1"); impl.TheoryOk(theory) != (many == 0) {
			t.Fatal("another signature", many)
		}
	}
	if impl.TheoryOk(impl.Theory{Over: s, Axioms: make([]impl.Eq, 1000000)}) || impl.TheoryOk(impl.Theory{}) {
		t.Fatal("taken")
	}
}
