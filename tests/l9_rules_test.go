package tests

import (
	"math"
	"math/rand"
	"slices"
	"testing"

	"loop.example/theorymodules/impl"
)

// searchArgs are arguments of the functions of the chapter: a theory with sizes, an equation and a number of an axiom for it, and a signature with two models of it.
type searchArgs struct {
	T     impl.Theory
	Sizes []int
	E     impl.Eq
	K     int
	S     impl.Sig
	A, B  impl.Model
}

// searchArgsFor returns arguments that fit each other, for a theory: the models are the same.
func searchArgsFor(r *rand.Rand, theory impl.Theory) searchArgs {
	s := theory.Over
	a := searchArgs{T: theory, Sizes: randomSizes(r, s.Sorts, 2), K: r.Intn(max(len(theory.Axioms), 1)), S: s}
	list := searchEqs(r, theory, 3)
	a.E = impl.Eq{Vars: []int{0, 0}, Left: []int{100}, Right: []int{101}}
	if len(list) > 0 {
		a.E = list[r.Intn(len(list))]
	}
	a.A = manyModels(r, s, 1)[1]
	orders := ordersByHand(a.A.Sizes)
	a.B = orderedBy(s, a.A, orders[r.Intn(len(orders))])
	return a
}

// changed returns arguments of which some need not fit, by chance.
func (a searchArgs) changed(r *rand.Rand) searchArgs {
	w := world{setting{a.T.Over, a.E.Vars}, a.T}
	list := w.pool(r.Int63(), 5)
	wrong := wrongSizes(a.Sizes)
	numbers := []int{-1, 0, 1, 2, 5, 6, math.MaxInt, math.MinInt}
	switch r.Intn(8) {
	case 0:
		a.T = anyAxioms(r, w, list)
	case 1:
		a.Sizes = wrong[r.Intn(len(wrong))]
	case 2:
		a.Sizes = randomSizes(r, a.T.Over.Sorts, 3)
	case 3:
		a.E = impl.Eq{Vars: anyVars(r, w.setting), Left: anyTerm(r, list), Right: anyTerm(r, list)}
	case 4:
		a.K = numbers[r.Intn(len(numbers))]
	case 5:
		a.A, a.B = anyModel(r, a.S, a.A), anyModel(r, a.S, a.B)
	case 6:
		a.S = anySig(r, a.S)
	case 7:
		a.A = nearModel(r, a.S, a.A)
	}
	return a
}

// mixed returns arguments that have nothing to do with each other.
func (a searchArgs) mixed(r *rand.Rand) searchArgs {
	a.T.Over, a.S = anySig(r, a.T.Over), anySig(r, a.S)
	if r.Intn(2) == 0 {
		a.T.Axioms = []impl.Eq{{Vars: anyRow(r), Left: anyRow(r), Right: anyRow(r)}}
	}
	a.Sizes, a.E = anyRow(r), impl.Eq{Vars: anyRow(r), Left: anyRow(r), Right: anyRow(r)}
	a.A, a.B = anyModel(r, a.S, oneValue(a.S)), anyModel(r, a.S, oneValue(a.S))
	return a
}

// Whatever the arguments are, the results are those that the document tells, and nothing panics.
func TestSearchOfAnyArguments(t *testing.T) {
	r := rand.New(rand.NewSource(360))
	for _, theory := range append(smallTheories(361, 60), worldTheories()...) {
		a := searchArgsFor(r, theory)
		a.check(t)
		for range 5 {
			a.changed(r).check(t)
		}
		a.mixed(r).check(t)
		a.changed(r).mixed(r).check(t)
	}
	searchArgs{}.check(t)
}

// check compares what all functions of the chapter return with what the document tells.
func (a searchArgs) check(t *testing.T) {
	t.Helper()
	checkModels(t, a.T, a.Sizes)
	checkKinds(t, a.T, a.Sizes)
	checkRefuted(t, a.T, a.E)
	checkAlone(t, a.T, a.K)
	checkDecided(t, a.T, a.E)
	checkSameModels(t, a.S, a.A, a.B)
	checkSameModels(t, a.S, a.A, a.A)
}

// results returns what the functions of the chapter return for some arguments.
func (a searchArgs) results() []any {
	impl.Decided(a.T, a.E)
	same, _ := impl.SameModels(a.S, a.A, a.B)
	self, _ := impl.SameModels(a.S, a.A, a.A)
	refuted, _ := impl.RefuteBy(a.T, a.E)
	alone, _ := impl.AxiomAlone(a.T, a.K)
	return []any{impl.ModelsOf(a.T, a.Sizes), impl.KindsOf(a.T, a.Sizes), same, self, refuted, alone}
}

// No argument is written to, and no result shares memory with an argument or with another result: the models of a list, their sizes, their tables and the rows of these are apart, too.
func TestSearchSharesNoMemory(t *testing.T) {
	r := rand.New(rand.NewSource(362))
	for _, theory := range smallTheories(363, 80) {
		a := searchArgsFor(r, theory)
		checkApart(t, a)
		checkApart(t, a.changed(r))
		checkApart(t, a.mixed(r))
		// All models, and a model and itself.
		a.T.Axioms, a.B, a.E = nil, a.A, impl.Eq{Vars: []int{0, 0}, Left: []int{100}, Right: []int{101}}
		checkApart(t, a)
		a.T.Axioms, a.K = []impl.Eq{a.E, {Vars: []int{0}, Left: []int{100}, Right: []int{100}}}, 0
		checkApart(t, a)
	}
	for _, bad := range badTheories() {
		one := oneValue(bad.Over)
		checkApart(t, searchArgs{T: bad, Sizes: one.Sizes, E: impl.Eq{Vars: []int{0}, Left: []int{100}, Right: []int{100}}, S: bad.Over, A: one, B: one})
	}
}

// Arguments that share memory with each other lead to results that do not: sizes that are a table, tables that are one, and axioms of one row.
func TestSearchOfSharedArguments(t *testing.T) {
	s := sigOf("2:00,00,01")
	row := []int{1, 0}
	sizes := []int{2, 1}
	rows := []int{0, 0, 100}
	e := impl.Eq{Vars: rows[:1], Left: rows, Right: rows[2:]}
	theory := impl.Theory{Over: s, Axioms: []impl.Eq{e, {Vars: rows[:1], Left: []int{1, 100}, Right: rows[1:]}}}
	m := impl.Model{Sizes: sizes, Tables: [][]int{row, row, {0, 0}}}
	models, kinds := impl.ModelsOf(theory, sizes), impl.KindsOf(theory, sizes)
	want := []impl.Model{modelOf([]int{2, 1}, []int{0, 1}, []int{0, 1}, []int{0, 0}), modelOf([]int{2, 1}, []int{1, 0}, []int{1, 0}, []int{0, 0})}
	wantModels(t, models, want)
	wantModels(t, kinds, want)
	same, ok := impl.SameModels(s, m, m)
	again, okAgain := impl.SameModels(s, m, m)
	wantRows(t, same, [][]int{{0, 1}, {0}})
	wantRows(t, again, same)
	refuted, okRefuted := impl.RefuteBy(theory, impl.Eq{Vars: rows[:1], Left: rows[1:], Right: rows[2:]})
	wantModel(t, refuted, okRefuted, want[1], true)
	alone, okAlone := impl.AxiomAlone(theory, 1)
	wantModel(t, alone, okAlone, modelOf([]int{2, 1}, []int{0, 1}, []int{0, 0}, []int{0, 0}), true)
	if !ok || !okAgain || impl.Decided(theory, e) != 1 {
		t.Fatal(same, again)
	}
	apart(t, []any{models, kinds, same, again, refuted, alone, row, sizes, rows, theory.Axioms[:0], m.Tables[:0]})
	for _, given := range [][]int{row, sizes, rows} {
		scribbleRow(given)
	}
	wantModels(t, models, want)
	wantModels(t, kinds, want)
	scribbleRow(models[0].Sizes)
	scribbleRow(models[0].Tables[0])
	wantModels(t, models[1:], want[1:])
	// One model changed about leaves the others, and what is told later.
	theory = known("1:")
	first := impl.ModelsOf(theory, []int{3})
	scribbleRow(first[0].Sizes)
	wantModels(t, impl.ModelsOf(theory, []int{3}), []impl.Model{modelOf([]int{3})})
	if slices.Equal(first[0].Sizes, []int{3}) {
		t.Fatal(first)
	}
}
