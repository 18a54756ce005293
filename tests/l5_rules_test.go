package tests

import (
	"math"
	"math/rand"
	"slices"
	"testing"

	"loop.example/theorymodules/impl"
)

// modelArgs are arguments of the functions of the chapter: a signature, a map of another one to it, two models of it, letters with their values, a term and an equation over it, and a theory over it.
type modelArgs struct {
	S, First impl.Sig
	F        impl.Map
	A, B     impl.Model
	Vars, U  []int
	Values   []int
	E        impl.Eq
	T        impl.Theory
}

// argsFor returns arguments that fit each other, for a world and a term of it.
func argsFor(r *rand.Rand, w world, u []int, list [][]int) modelArgs {
	// A map of a part of the signature to it: it leaves all.
	part := impl.SigPart(w.s, 1+r.Intn(w.s.Sorts))
	f := impl.MapsOf(part, w.s)
	sizes, others := pairSizes(r, w.s.Sorts)
	a := modelArgs{S: w.s, First: w.s, F: impl.MapSelf(w.s), A: randomModel(r, w.s, sizes), B: randomModel(r, w.s, others), Vars: w.vars, U: u, T: w.t}
	if len(f) > 0 {
		a.First, a.F = part, f[r.Intn(len(f))]
	}
	rows := allRows(sizesByHand(a.A, w.vars))
	a.Values = slices.Clone(rows[r.Intn(len(rows))])
	_, a.E = w.walk(r, u, r.Intn(3), list)
	if other := anyTerm(r, list); sortByHand(w.s, w.vars, other) == sortByHand(w.s, w.vars, u) && r.Intn(2) == 0 {
		a.E.Right = other
	}
	return a
}

// anyModel returns a model with something changed, which need not be one, or with sizes and tables that have nothing to do with each other.
func anyModel(r *rand.Rand, s impl.Sig, m impl.Model) impl.Model {
	switch r.Intn(5) {
	case 0:
		if impl.ModelOk(s, m) {
			bad := badModels(s, m)
			return bad[r.Intn(len(bad))]
		}
	case 1:
		other := impl.Model{}
		numbers := []int{-1, 0, 1, 1, 2, 2, 3, 3, 4, math.MaxInt, math.MinInt}
		for range r.Intn(5) {
			other.Sizes = append(other.Sizes, numbers[r.Intn(len(numbers))])
		}
		for range r.Intn(8) {
			other.Tables = append(other.Tables, anyRow(r))
		}
		return other
	}
	return m
}

// changed returns arguments of which some need not fit, by chance.
func (a modelArgs) changed(r *rand.Rand, w world, list [][]int) modelArgs {
	a.A, a.B = anyModel(r, a.S, a.A), anyModel(r, a.S, a.B)
	a.F = anyMap(r, road{a.First, a.S, a.F})
	a.S, a.First = anySig(r, a.S), anySig(r, a.First)
	switch r.Intn(5) {
	case 0:
		a.Vars = anyVars(r, w.setting)
	case 1:
		a.U = anyTerm(r, list)
	case 2:
		a.Values = anyRow(r)
	case 3:
		a.E = impl.Eq{Vars: anyVars(r, w.setting), Left: anyTerm(r, list), Right: anyTerm(r, list)}
	case 4:
		a.T = anyAxioms(r, w, list)
	}
	return a
}

// Whatever the arguments are, the results are those that the document tells, and nothing panics.
func TestModelsOfAnyArguments(t *testing.T) {
	r := rand.New(rand.NewSource(75))
	for i, w := range worlds() {
		list := w.pool(int64(i+4500), 30)
		for range 100 {
			if len(list) > 0 {
				a := argsFor(r, w, list[r.Intn(len(list))], list)
				checkAnyModels(t, a)
				checkAnyModels(t, a.changed(r, w, list))
			}
			// Rows that have nothing to do with each other.
			checkAnyModels(t, modelArgs{
				S: anySig(r, w.s), First: anySig(r, w.s), F: impl.Map{Sorts: anyRow(r), Ops: anyRow(r)},
				A: anyModel(r, w.s, oneValue(w.s)), B: anyModel(r, w.s, oneValue(w.s)), Vars: anyRow(r), U: anyRow(r), Values: anyRow(r),
				E: impl.Eq{Vars: anyRow(r), Left: anyRow(r), Right: anyRow(r)}, T: anyAxioms(r, w, list),
			})
		}
	}
}

// checkAnyModels compares what all functions of the chapter return with what the document tells.
func checkAnyModels(t *testing.T, a modelArgs) {
	t.Helper()
	for _, m := range []impl.Model{a.A, a.B} {
		if impl.ModelOk(a.S, m) != modelByHand(a.S, m) {
			t.Fatal("ModelOk", a.S, m)
		}
		if impl.ValuesOk(a.S, m, a.Vars, a.Values) != valuesByHand(a.S, m, a.Vars, a.Values) {
			t.Fatal("ValuesOk", a.S, m, a.Vars, a.Values)
		}
		checkValue(t, a.S, m, a.Vars, a.U, a.Values)
		checkHolds(t, a.S, m, a.E)
		if impl.IsModel(a.T, m) != isModelByHand(a.T, m) {
			t.Fatal("IsModel", a.T, m)
		}
		checkModelBack(t, road{a.First, a.S, a.F}, m)
	}
	checkPair(t, a.S, a.A, a.B)
}

// results returns what the functions of the chapter return for some arguments.
func (a modelArgs) results() []any {
	impl.ModelOk(a.S, a.A)
	impl.ValuesOk(a.S, a.A, a.Vars, a.Values)
	impl.ValueOf(a.S, a.A, a.Vars, a.U, a.Values)
	impl.Holds(a.S, a.A, a.E)
	impl.IsModel(a.T, a.A)
	first, _ := impl.FailsAt(a.S, a.A, a.E)
	second, _ := impl.FailsAt(a.S, a.B, a.E)
	pairs, _ := impl.ModelPair(a.S, a.A, a.B)
	twice, _ := impl.ModelPair(a.S, a.A, a.A)
	return []any{first, second, pairs, twice, impl.ModelBack(a.First, a.S, a.F, a.A), impl.ModelBack(a.S, a.S, impl.MapSelf(a.S), a.B)}
}

// No argument is written to, and no result shares memory with an argument or with another result.
func TestModelsShareNoMemory(t *testing.T) {
	r := rand.New(rand.NewSource(76))
	for i, w := range worlds() {
		list := w.pool(int64(i+4600), 12)
		for _, u := range list {
			a := argsFor(r, w, u, list)
			checkApart(t, a)
			checkApart(t, a.changed(r, w, list))
			// With one value of each sort the pairs are the other model, in other memory.
			a.A = oneValue(w.s)
			checkApart(t, a)
			a.A, a.B = a.B, a.A
			checkApart(t, a)
		}
	}
	for _, bad := range badTheories() {
		checkApart(t, modelArgs{S: bad.Over, First: bad.Over, F: zeroMap(bad.Over), A: oneValue(bad.Over), B: oneValue(bad.Over), U: []int{0}, T: bad})
	}
}

// Two operations that are led to one have tables of their own; and arguments that share memory with each other lead to results that do not.
func TestModelsOfSharedArguments(t *testing.T) {
	s := sigOf("2:00,00,1,1")
	table := []int{1, 0}
	m := impl.Model{Sizes: []int{2, 1}, Tables: [][]int{table, table, {0}, {0}}}
	f := impl.Map{Sorts: []int{0, 1}, Ops: []int{1, 1, 2, 2}}
	back := impl.ModelBack(s, s, f, m)
	pairs, okPair := impl.ModelPair(s, m, oneValue(s))
	wantModel(t, back, true, m, true)
	wantModel(t, pairs, okPair, m, true)
	row := []int{0, 100}
	e := impl.Eq{Vars: row[:1], Left: row, Right: row[1:]}
	values, ok := impl.FailsAt(s, m, e)
	wantRow(t, values, ok, []int{0}, true)
	again, ok := impl.FailsAt(s, m, e)
	wantRow(t, again, ok, []int{0}, true)
	apart(t, []any{back, pairs, values, again, impl.ModelBack(s, s, f, m), table, row, f, m.Sizes})
	scribbleRow(values)
	last, ok := impl.FailsAt(s, m, e)
	wantRow(t, last, ok, []int{0}, true)
}
