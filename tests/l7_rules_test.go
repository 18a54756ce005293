package tests

import (
	"math/rand"
	"slices"
	"testing"

	"loop.example/theorymodules/impl"
)

// sumArgs are arguments of the functions of the chapter: a fork, a signature with maps of both sides to it, models of both sides, and theories over them.
type sumArgs struct {
	C, A, B, D impl.Sig
	F, G, P, Q impl.Map
	M, N       impl.Model
	T, U       impl.Theory
}

// fork returns the fork of some arguments.
func (a sumArgs) fork() fork {
	return fork{a.C, a.A, a.B, a.F, a.G}
}

// sumArgsFor returns arguments that fit each other, for a fork whose sum is valid.
func sumArgsFor(r *rand.Rand, x fork) sumArgs {
	sum, _, _, _ := x.overByHand()
	y := anyRoad(r, sum)
	a := sumArgs{C: x.c, A: x.a, B: x.b, D: y.b, F: x.f, G: x.g}
	a.P, a.Q = x.led(y.b, y.m)
	a.M, a.N = x.backs(randomModel(r, sum, randomSizes(r, sum.Sorts, 3)))
	a.T, a.U = x.sumTheories(r)
	return a
}

// anyLed returns the map of a road, one with something changed, or any rows.
func anyLed(r *rand.Rand, x road) impl.Map {
	if r.Intn(12) == 0 {
		return mapOf(anyRow(r), anyRow(r)...)
	}
	return anyMap(r, x)
}

// changed returns arguments of which some need not fit, by chance.
func (a sumArgs) changed(r *rand.Rand) sumArgs {
	switch r.Intn(4) {
	case 0:
		a.F, a.G = anyLed(r, road{a.C, a.A, a.F}), anyLed(r, road{a.C, a.B, a.G})
	case 1:
		a.P, a.Q = anyLed(r, road{a.A, a.D, a.P}), anyLed(r, road{a.B, a.D, a.Q})
	case 2:
		a.M, a.N = anyModel(r, a.A, a.M), anyModel(r, a.B, a.N)
		if r.Intn(3) == 0 {
			a.M = randomModel(r, a.A, randomSizes(r, a.A.Sorts, 3))
		}
	}
	switch r.Intn(8) {
	case 0:
		a.C, a.D = anySig(r, a.C), anySig(r, a.D)
	case 1:
		a.A, a.T.Over = anySig(r, a.A), anySig(r, a.T.Over)
	case 2:
		a.B, a.U.Over = anySig(r, a.B), anySig(r, a.U.Over)
	case 3:
		a.A, a.B, a.F, a.G = a.B, a.A, a.G, a.F
	case 4:
		a.T, a.U = a.U, a.T
	case 5, 6:
		e := impl.Eq{Vars: anyRow(r), Left: anyRow(r), Right: anyRow(r)}
		a.T.Axioms, a.U.Axioms = append(slices.Clone(a.T.Axioms), a.U.Axioms...), append(slices.Clone(a.U.Axioms), e)
	}
	return a
}

// Whatever the arguments are, the results are those that the document tells, and nothing panics.
func TestSumsOfAnyArguments(t *testing.T) {
	r := rand.New(rand.NewSource(150))
	for _, x := range goodForks(151, 600) {
		a := sumArgsFor(r, x)
		checkAnySums(t, a)
		for range 8 {
			checkAnySums(t, a.changed(r))
		}
		// Rows that have nothing to do with each other.
		checkAnySums(t, sumArgs{
			C: anySig(r, x.c), A: anySig(r, x.a), B: anySig(r, x.b), D: anySig(r, a.D),
			F: mapOf(anyRow(r), anyRow(r)...), G: mapOf(anyRow(r), anyRow(r)...), P: mapOf(anyRow(r), anyRow(r)...), Q: mapOf(anyRow(r), anyRow(r)...),
			M: anyModel(r, x.a, oneValue(x.a)), N: anyModel(r, x.b, oneValue(x.b)), T: impl.Theory{Over: anySig(r, x.a)}, U: impl.Theory{Over: anySig(r, x.b)},
		})
	}
	// Forks whose sums need not be valid.
	for _, x := range manyForks(152, 600) {
		p, q := allToOne(x.a), allToOne(x.b)
		a := sumArgs{x.c, x.a, x.b, sigOf("1:0,00,000"), x.f, x.g, p, q, oneValue(x.a), oneValue(x.b), impl.Theory{}, impl.Theory{}}
		a.T, a.U = x.sumTheories(r)
		checkAnySums(t, a)
		checkAnySums(t, a.changed(r))
	}
	checkAnySums(t, sumArgs{})
}

// checkAnySums compares what all functions of the chapter return with what the document tells.
func checkAnySums(t *testing.T, a sumArgs) {
	t.Helper()
	x := a.fork()
	checkOver(t, x)
	checkSumMap(t, x, a.D, a.P, a.Q)
	checkSumModel(t, x, a.M, a.N)
	checkSumTheory(t, x, a.T, a.U)
}

// results returns what the functions of the chapter return for some arguments.
func (a sumArgs) results() []any {
	sum, left, right, _ := impl.SumOver(a.C, a.A, a.B, a.F, a.G)
	u, _ := impl.SumMap(a.C, a.A, a.B, a.F, a.G, a.D, a.P, a.Q)
	whole, _ := impl.SumModel(a.C, a.A, a.B, a.F, a.G, a.M, a.N)
	theory, _ := impl.SumTheory(a.C, a.T, a.U, a.F, a.G)
	return []any{sum, left, right, u, whole, theory}
}

// No argument is written to, and no result shares memory with an argument or with another result.
func TestSumsShareNoMemory(t *testing.T) {
	r := rand.New(rand.NewSource(153))
	for _, x := range goodForks(154, 400) {
		a := sumArgsFor(r, x)
		checkApart(t, a)
		checkApart(t, a.changed(r))
		// Over themselves the results are the arguments, in other memory.
		self := selfByHand(a.A)
		a.C, a.B, a.F, a.G, a.Q, a.N, a.U = a.A, a.A, self, self, a.P, a.M, a.T
		checkApart(t, a)
	}
	for _, x := range manyForks(155, 200) {
		checkApart(t, sumArgs{x.c, x.a, x.b, sigOf("1:0,00,000"), x.f, x.g, allToOne(x.a), allToOne(x.b), oneValue(x.a), oneValue(x.b), impl.Theory{Over: x.a}, impl.Theory{Over: x.b}})
	}
	for _, bad := range badTheories() {
		one, zero := oneValue(bad.Over), zeroMap(bad.Over)
		checkApart(t, sumArgs{bad.Over, bad.Over, bad.Over, bad.Over, zero, zero, zero, zero, one, one, bad, bad})
	}
}

// Arguments that share memory with each other lead to results that do not: rows of sorts, tables and axioms that are one, and maps that are parts of one row.
func TestSumsOfSharedArguments(t *testing.T) {
	row := []int{0, 0}
	table := []int{1, 0}
	s := impl.Sig{Sorts: 1, Ops: [][]int{row, row, row}}
	c := impl.Sig{Sorts: 1, Ops: s.Ops[:1]}
	m := impl.Map{Sorts: row[:1], Ops: row[:1]}
	self := impl.Map{Sorts: row[:1], Ops: []int{0, 1, 2}}
	side := []int{0, 100}
	e := impl.Eq{Vars: row, Left: side, Right: side}
	theory := impl.Theory{Over: s, Axioms: []impl.Eq{e, e}}
	model := modelOf([]int{2}, table, table, table)
	sum, left, right, ok := impl.SumOver(c, s, s, m, m)
	if !ok || !sameSig(sum, sigOf("1:00,00,00,00,00")) || !sameMap(left, mapOf([]int{0}, 0, 1, 2)) || !sameMap(right, mapOf([]int{0}, 0, 3, 4)) {
		t.Fatal(sum, left, right, ok)
	}
	u, ok := impl.SumMap(c, s, s, m, m, s, self, self)
	wantMap(t, u, ok, mapOf([]int{0}, 0, 1, 2, 1, 2), true)
	whole, ok := impl.SumModel(c, s, s, m, m, model, model)
	wantModel(t, whole, ok, modelOf([]int{2}, table, table, table, table, table), true)
	put, ok := impl.SumTheory(c, theory, theory, m, m)
	if !ok || !sameTheory(put, impl.Theory{Over: sum, Axioms: []impl.Eq{e}}) {
		t.Fatal(put, ok)
	}
	apart(t, []any{sum, left, right, u, whole, put, row, table, s.Ops[:0], side, self.Ops, model.Sizes, model.Tables[:0], theory.Axioms[:0]})
	scribbleRow(row)
	scribbleRow(table)
	wantModel(t, whole, true, modelOf([]int{2}, []int{1, 0}, []int{1, 0}, []int{1, 0}, []int{1, 0}, []int{1, 0}), true)
	if !sameSig(sum, sigOf("1:00,00,00,00,00")) {
		t.Fatal(sum)
	}
}
