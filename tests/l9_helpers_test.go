package tests

import (
	"math"
	"math/rand"
	"slices"
	"testing"

	"loop.example/theorymodules/impl"
)

// sizesByChoice reports whether sizes are some for the sorts of a signature.
func sizesByChoice(s impl.Sig, sizes []int) bool {
	return impl.SigValid(s) && slices.ContainsFunc(allRows([]int{3, 3, 3}[:s.Sorts]), func(row []int) bool { return sameRow(raised(row), sizes) })
}

// raised returns a row with each number greater by one.
func raised(row []int) []int {
	var more []int
	for _, number := range row {
		more = append(more, number+1)
	}
	return more
}

// allSizes returns all rows of sizes for so many sorts, each up to a size.
func allSizes(sorts, most int) [][]int {
	var list [][]int
	for _, row := range allRows(slices.Repeat([]int{most}, sorts)) {
		list = append(list, raised(row))
	}
	return list
}

// tableWays returns how many ways there are to choose all numbers of the tables of models of some sizes; 100000 if they are more.
func tableWays(s impl.Sig, sizes []int) int {
	ways := 1
	for _, row := range s.Ops {
		last := len(row) - 1
		for range allRows(sizesByHand(impl.Model{Sizes: sizes}, row[:last])) {
			ways = min(ways*sizes[row[last]], 100000)
		}
	}
	return ways
}

// modelsByHand is ModelsOf as the document tells it: all tables of one operation after the other are put behind those of the operations before.
func modelsByHand(t impl.Theory, sizes []int) []impl.Model {
	if !theoryByHand(t) || !sizesByChoice(t.Over, sizes) || tableWays(t.Over, sizes) > 3000 {
		return nil
	}
	lists := [][][]int{nil}
	for op, table := range zeroModel(t.Over, sizes).Tables {
		choices := allRows(slices.Repeat([]int{sizes[impl.OpLeaves(t.Over, op)]}, len(table)))
		var longer [][][]int
		for _, tables := range lists {
			for _, other := range choices {
				longer = append(longer, append(slices.Clone(tables), other))
			}
		}
		lists = longer
	}
	var models []impl.Model
	for _, tables := range lists {
		m := impl.Model{Sizes: sizes, Tables: tables}
		if !slices.ContainsFunc(t.Axioms, func(e impl.Eq) bool { return differsByHand(t.Over, m, e) }) {
			models = append(models, m)
		}
	}
	return models
}

// differsByHand reports whether an equation fails in a model, both of which are known to be ones.
func differsByHand(s impl.Sig, m impl.Model, e impl.Eq) bool {
	left, _ := treeByHand(s, e.Vars, e.Left)
	right, _ := treeByHand(s, e.Vars, e.Right)
	return slices.ContainsFunc(allRows(sizesByHand(m, e.Vars)), func(values []int) bool { return left.value(s, m, values) != right.value(s, m, values) })
}

// ordersByHand returns all ways to lead the values of each sort to others, no two to one, in the order of their rows.
func ordersByHand(sizes []int) [][][]int {
	turns := [][][]int{{{0}}, {{0, 1}, {1, 0}}, {{0, 1, 2}, {0, 2, 1}, {1, 0, 2}, {1, 2, 0}, {2, 0, 1}, {2, 1, 0}}}
	list := [][][]int{nil}
	for _, size := range sizes {
		var longer [][][]int
		for _, rows := range list {
			for _, row := range turns[size-1] {
				longer = append(longer, append(slices.Clone(rows), row))
			}
		}
		list = longer
	}
	return list
}

// tooManyMaps reports whether there are more ways to lead values than are gone through: of the sizes that there are just three times three.
func tooManyMaps(sizes []int) bool {
	return sameRow(sizes, []int{3, 3, 3})
}

// orderedBy returns the model that a model becomes if its values are led to others, no two to one.
func orderedBy(s impl.Sig, m impl.Model, h [][]int) impl.Model {
	other := zeroModel(s, m.Sizes)
	for _, f := range factsOf(s, m) {
		takes := impl.OpTakes(s, f.op)
		led := withRows(h, takes, f.values)
		at := slices.IndexFunc(allRows(sizesByHand(m, takes)), func(row []int) bool { return sameRow(row, led) })
		other.Tables[f.op][at] = h[impl.OpLeaves(s, f.op)][f.left]
	}
	return other
}

// sameModelsByHand is SameModels as the document tells it.
func sameModelsByHand(s impl.Sig, a, b impl.Model) ([][]int, bool) {
	if !modelByHand(s, a) || !modelByHand(s, b) || !sameRow(a.Sizes, b.Sizes) || tooManyMaps(a.Sizes) {
		return nil, false
	}
	first, second := factsOf(s, a), factsOf(s, b)
	for _, h := range ordersByHand(a.Sizes) {
		if alongByHand(s, first, second, h) {
			return h, true
		}
	}
	return nil, false
}

// keyOf tells the tables of a model.
func keyOf(m impl.Model) string {
	return textOfRow(joined(m.Tables...))
}

// kindsByHand is KindsOf as the document tells it: of each model that is told it looks which others are the same.
func kindsByHand(t impl.Theory, sizes []int) []impl.Model {
	var kinds []impl.Model
	told := map[string]bool{}
	for _, m := range modelsByHand(t, sizes) {
		if told[keyOf(m)] {
			continue
		}
		kinds = append(kinds, m)
		if tooManyMaps(sizes) {
			continue
		}
		for _, h := range ordersByHand(sizes) {
			told[keyOf(orderedBy(t.Over, m, h))] = true
		}
	}
	return kinds
}

// smallOnes returns the models of the axioms of a theory with sizes of 1 and 2, in the order of rows of these.
func smallOnes(t impl.Theory) []impl.Model {
	if !theoryByHand(t) {
		return nil
	}
	var list []impl.Model
	for _, sizes := range allSizes(t.Over.Sorts, 2) {
		list = append(list, modelsByHand(t, sizes)...)
	}
	return list
}

// failsAmong returns the first one of some models in which an equation fails.
func failsAmong(s impl.Sig, e impl.Eq, models []impl.Model) (impl.Model, bool) {
	at := slices.IndexFunc(models, func(m impl.Model) bool { return differsByHand(s, m, e) })
	if at < 0 {
		return impl.Model{}, false
	}
	return models[at], true
}

// refuteByHand is RefuteBy as the document tells it.
func refuteByHand(t impl.Theory, e impl.Eq) (impl.Model, bool) {
	if !theoryByHand(t) || !eqByHand(t.Over, e) {
		return impl.Model{}, false
	}
	return failsAmong(t.Over, e, smallOnes(t))
}

// aloneByHand is AxiomAlone as the document tells it.
func aloneByHand(t impl.Theory, k int) (impl.Model, bool) {
	if !theoryByHand(t) || k < 0 || k >= len(t.Axioms) {
		return impl.Model{}, false
	}
	return refuteByHand(without(t, k), t.Axioms[k])
}

// without returns a theory without the axiom with a number.
func without(t impl.Theory, k int) impl.Theory {
	return withAxioms(t, slices.Delete(slices.Clone(t.Axioms), k, k+1)...)
}

// decidedByHand is Decided as the document tells it.
func decidedByHand(t impl.Theory, e impl.Eq) int {
	if !theoryByHand(t) || !eqByHand(t.Over, e) {
		return -1
	}
	if _, ok := findByHand(t, e); ok {
		return 1
	}
	if _, ok := refuteByHand(t, e); ok {
		return 0
	}
	return 2
}

// wantModels fails if models are not those that are wanted, or not nil if none are.
func wantModels(t *testing.T, got, want []impl.Model, about ...any) {
	t.Helper()
	if !slices.EqualFunc(got, want, sameModel) || len(want) == 0 && got != nil {
		t.Fatal("got", got, "wanted", want, "for", about)
	}
}

// checkModels compares the models of a theory with what the document tells, and returns them.
func checkModels(t *testing.T, theory impl.Theory, sizes []int) []impl.Model {
	t.Helper()
	got := impl.ModelsOf(theory, sizes)
	wantModels(t, got, modelsByHand(theory, sizes), theory, sizes)
	return got
}

// checkKinds compares the kinds of models of a theory with what the document tells, and returns them.
func checkKinds(t *testing.T, theory impl.Theory, sizes []int) []impl.Model {
	t.Helper()
	got := impl.KindsOf(theory, sizes)
	wantModels(t, got, kindsByHand(theory, sizes), theory, sizes)
	return got
}

// checkSameModels compares the map that leads a model to one that is the same with what the document tells, and reports whether there is one.
func checkSameModels(t *testing.T, s impl.Sig, a, b impl.Model) bool {
	t.Helper()
	want, wantOk := sameModelsByHand(s, a, b)
	got, ok := impl.SameModels(s, a, b)
	if ok != wantOk || !sameRows(got, want) || !ok && got != nil {
		t.Fatal("got", got, ok, "wanted", want, wantOk, "for", s, a, b)
	}
	return ok
}

// checkRefuted compares the model in which an equation fails with what the document tells, and returns it.
func checkRefuted(t *testing.T, theory impl.Theory, e impl.Eq) (impl.Model, bool) {
	t.Helper()
	want, wantOk := refuteByHand(theory, e)
	got, ok := impl.RefuteBy(theory, e)
	wantModel(t, got, ok, want, wantOk, theory, e)
	return got, ok
}

// checkAlone compares the model in which an axiom fails alone with what the document tells, and returns it.
func checkAlone(t *testing.T, theory impl.Theory, k int) (impl.Model, bool) {
	t.Helper()
	want, wantOk := aloneByHand(theory, k)
	got, ok := impl.AxiomAlone(theory, k)
	wantModel(t, got, ok, want, wantOk, theory, k)
	return got, ok
}

// checkDecided compares what is told of an equation with what the document tells, and returns it.
func checkDecided(t *testing.T, theory impl.Theory, e impl.Eq) int {
	t.Helper()
	got := impl.Decided(theory, e)
	if want := decidedByHand(theory, e); got != want {
		t.Fatal("got", got, "wanted", want, "for", theory, e)
	}
	return got
}

// known is a theory that a test names.
func known(sig string, axioms ...string) impl.Theory {
	return worldOf(sig, nil, axioms...).t
}

// smallTheories returns theories whose models with sizes of 1 and 2 can be gone through, not all of them without axioms: known ones, and such by chance.
func smallTheories(seed int64, many int) []impl.Theory {
	list := []impl.Theory{
		group().t,
		known("1:"),
		known("1:", "00 x0=x1"),
		known("2:"),
		known("3:", "22 x0=x1", "11 x0=x0"),
		known("1:0"),
		known("1:00", "0 f0(f0(x0))=x0"),
		known("1:00,0", "0 f0(f0(x0))=f0(x0)", " f0(f1)=f1"),
		known("1:000", "000 f0(f0(x0,x1),x2)=f0(x0,f0(x1,x2))", "00 f0(x0,x1)=f0(x1,x0)", "0 f0(x0,x0)=x0"),
		known("1:000,00", "00 f1(f0(x0,x1))=f0(f1(x1),f1(x0))", "0 f1(f1(x0))=x0"),
		known("1:000,00,0", "0 f0(x0,f2)=x0", "0 f0(f2,x0)=x0", "0 f0(x0,f1(x0))=f2"),
		known("2:01,10", "0 f1(f0(x0))=x0"),
		known("2:001,110", "00 f0(x0,x1)=f0(x1,x0)", "11 f1(x0,x1)=f1(x1,x0)"),
		known("2:010,1,00", "0 f0(x0,f1)=x0", "01 f2(f0(x0,x1))=f0(f2(x0),x1)"),
		known("3:012,2", "01 f0(x0,x1)=f1"),
		known("3:01,12,20", "0 f2(f1(f0(x0)))=x0"),
	}
	r := rand.New(rand.NewSource(seed))
	for len(list) < many {
		sorts := 1 + r.Intn(3)
		s := randomSig(r, rowsOver(sorts), sorts, r.Intn(5))
		if ways := tableWays(s, slices.Repeat([]int{2}, sorts)); ways <= 256 || ways <= 3000 && r.Intn(8) == 0 {
			list = append(list, anyTheory(r, setting{s, nil}, r.Intn(4)))
		}
	}
	return list
}

// wrongSizes returns what are no sizes for so many sorts, each made from sizes by one change.
func wrongSizes(sizes []int) [][]int {
	list := [][]int{nil, {}, sizes[1:], joined(sizes, []int{1}), joined(sizes, []int{0}), joined([]int{1}, sizes), make([]int, 1000)}
	for sort := range sizes {
		for _, wrong := range []int{-1, 0, 4, 5, 100, math.MaxInt, math.MinInt} {
			other := slices.Clone(sizes)
			other[sort] = wrong
			list = append(list, other)
		}
	}
	return list
}
