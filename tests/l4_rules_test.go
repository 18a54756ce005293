package tests

import (
	"math/rand"
	"testing"

	"loop.example/theorymodules/impl"
)

// mapArgs are arguments of the functions of the chapter: maps of a first signature to a second one and of this to a third one, letters, a term, an equation and a proof over the first one, and theories over the first one and the second one.
type mapArgs struct {
	A, B, C impl.Sig
	M, N    impl.Map
	Vars, U []int
	E       impl.Eq
	T, Led  impl.Theory
	Steps   []impl.Step
}

// argsAlong returns arguments that fit each other, for a world, a term of it and maps that lead from it.
func argsAlong(r *rand.Rand, w world, u []int, list [][]int) mapArgs {
	x := anyRoad(r, w.s)
	y := anyRoad(r, x.b)
	steps, e := w.walk(r, u, r.Intn(5), list)
	return mapArgs{x.a, x.b, y.b, x.m, y.m, w.vars, u, e, w.t, ledTheory(r, x, w.t), steps}
}

// changed returns arguments of which some need not fit, by chance.
func (a mapArgs) changed(r *rand.Rand, w world, list [][]int) mapArgs {
	x, y := road{a.A, a.B, a.M}, road{a.B, a.C, a.N}
	a.M, a.N = anyMap(r, x), anyMap(r, y)
	a.A, a.B, a.C = anySig(r, a.A), anySig(r, a.B), anySig(r, a.C)
	switch r.Intn(4) {
	case 0:
		a.Vars = anyVars(r, w.setting)
	case 1:
		a.U = anyTerm(r, list)
	case 2:
		a.E = impl.Eq{Vars: anyVars(r, w.setting), Left: anyTerm(r, list), Right: anyTerm(r, list)}
	}
	switch r.Intn(4) {
	case 0:
		a.T = anyAxioms(r, w, list)
	case 1:
		a.Led = anyAxioms(r, world{setting{a.B, nil}, a.Led}, list)
	case 2:
		a.Steps = anyChange(r, a.Steps, list)
	}
	return a
}

// Whatever the arguments are, the results are those that the document tells, and nothing panics.
func TestMapsOfAnyArguments(t *testing.T) {
	r := rand.New(rand.NewSource(50))
	for i, w := range worlds() {
		list := w.pool(int64(i+3200), 30)
		for range 60 {
			if len(list) > 0 {
				a := argsAlong(r, w, list[r.Intn(len(list))], list)
				checkAnyMaps(t, a)
				checkAnyMaps(t, a.changed(r, w, list))
			}
			// Rows that have nothing to do with each other.
			checkAnyMaps(t, mapArgs{
				A: anySig(r, w.s), B: anySig(r, w.s), C: anySig(r, w.s), M: impl.Map{Sorts: anyRow(r), Ops: anyRow(r)}, N: impl.Map{Sorts: anyRow(r), Ops: anyRow(r)},
				Vars: anyRow(r), U: anyRow(r), E: impl.Eq{Vars: anyRow(r), Left: anyRow(r), Right: anyRow(r)},
				T: anyAxioms(r, w, list), Led: anyAxioms(r, w, list), Steps: anyChange(r, nil, list),
			})
		}
	}
}

// checkAnyMaps compares what all functions of the chapter return with what the document tells.
func checkAnyMaps(t *testing.T, a mapArgs) {
	t.Helper()
	x := road{a.A, a.B, a.M}
	if impl.MapOk(a.A, a.B, a.M) != okByHand(a.A, a.B, a.M) || impl.MapOk(a.B, a.C, a.N) != okByHand(a.B, a.C, a.N) {
		t.Fatal("MapOk", a)
	}
	self := impl.Map{}
	if impl.SigValid(a.A) {
		self = selfByHand(a.A)
	}
	wantMap(t, impl.MapSelf(a.A), true, self, true, a.A)
	then, ok := impl.MapThen(a.A, a.B, a.C, a.M, a.N)
	want, wantOk := thenByHand(a.A, a.B, a.C, a.M, a.N)
	wantMap(t, then, ok, want, wantOk, a)
	ledVars, led, wantOk := termByHand(x, a.Vars, a.U)
	wantTerm(t, x, a.Vars, a.U, ledVars, led, wantOk)
	other, wantOk := mapEqByHand(x, a.E)
	wantEq(t, x, a.E, other, wantOk)
	checkAxioms(t, a.T, a.Led, a.M)
	checkLed(t, a.T, a.Led, a.M, a.E, a.Steps)
	checkList(t, a.A, a.B)
}

// results returns what the functions of the chapter return for some arguments.
func (a mapArgs) results() []any {
	impl.MapOk(a.A, a.B, a.M)
	then, _ := impl.MapThen(a.A, a.B, a.C, a.M, a.N)
	vars, u, _ := impl.MapTerm(a.A, a.B, a.M, a.Vars, a.U)
	e, _ := impl.MapEq(a.A, a.B, a.M, a.E)
	axioms, _ := impl.MapAxioms(a.T, a.Led, a.M)
	steps, _ := impl.MapProof(a.T, a.Led, a.M, a.E, a.Steps)
	return []any{impl.MapSelf(a.A), then, vars, u, e, axioms, steps, impl.MapsOf(a.A, a.B)}
}

// No argument is written to, and no result shares memory with an argument or with another result.
func TestMapsShareNoMemory(t *testing.T) {
	r := rand.New(rand.NewSource(51))
	for i, w := range worlds() {
		list := w.pool(int64(i+3300), 8)
		for _, u := range list {
			a := argsAlong(r, w, u, list)
			checkApart(t, a)
			checkApart(t, a.changed(r, w, list))
			// Along the map that leaves all, the results are the arguments, in other memory.
			a.B, a.C, a.M, a.N, a.Led = a.A, a.A, impl.MapSelf(a.A), impl.MapSelf(a.A), a.T
			checkApart(t, a)
		}
	}
	for _, bad := range badTheories() {
		checkApart(t, mapArgs{A: bad.Over, B: bad.Over, C: bad.Over, M: zeroMap(bad.Over), N: zeroMap(bad.Over), U: []int{0}, T: bad, Led: bad, Steps: []impl.Step{stepAt(0, false, 0, []int{100})}})
	}
}

// Arguments that share memory with each other lead to results that do not.
func TestMapsOfSharedArguments(t *testing.T) {
	s := sigOf("1:0,0,000")
	row := []int{0, 1, 2}
	m := impl.Map{Sorts: row[:1], Ops: row}
	u := []int{2, 100, 100}
	terms := [][]int{u[1:2], u[1:2]}
	e := impl.Eq{Vars: row[:1], Left: u, Right: u}
	comm := impl.Eq{Vars: []int{0, 0}, Left: []int{2, 100, 101}, Right: []int{2, 101, 100}}
	theory := impl.Theory{Over: s, Axioms: []impl.Eq{comm, comm}}
	steps := []impl.Step{{Axiom: 1, Terms: terms}, {Axiom: 1, Terms: terms}}
	then, okThen := impl.MapThen(s, s, s, m, m)
	vars, led, okTerm := impl.MapTerm(s, s, m, row[:1], u)
	other, okEq := impl.MapEq(s, s, m, e)
	axioms, okAxioms := impl.MapAxioms(theory, theory, m)
	proof, okProof := impl.MapProof(theory, theory, m, e, steps)
	if !okThen || !okTerm || !okEq || !okAxioms || !okProof || len(proof) != 2 || !sameRow(axioms, []int{0, 0}) {
		t.Fatal(then, vars, led, other, axioms, proof)
	}
	list := impl.MapsOf(s, s)
	if len(list) != 4 {
		t.Fatal(list)
	}
	apart(t, []any{then, vars, led, other, axioms, proof, list, impl.MapSelf(s), row, u, s})
}
