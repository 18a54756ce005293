package tests

import (
	"math/rand"
	"slices"
	"testing"

	"loop.example/theorymodules/impl"
)

// fewModels returns all models of a signature whose sorts have one or two values, or none if there are more than so many.
func fewModels(s impl.Sig, most int) []impl.Model {
	var list []impl.Model
	for _, row := range allRows(slices.Repeat([]int{2}, s.Sorts)) {
		sizes := make([]int, s.Sorts)
		for i, number := range row {
			sizes[i] = number + 1
		}
		zero := zeroModel(s, sizes)
		var choices, lengths []int
		ways := 1
		for op, table := range zero.Tables {
			lengths = append(lengths, len(table))
			for range table {
				choices = append(choices, sizes[impl.OpLeaves(s, op)])
				ways = min(ways*sizes[impl.OpLeaves(s, op)], most+1)
			}
		}
		if len(list)+ways > most {
			return nil
		}
		for _, numbers := range allRows(choices) {
			list = append(list, impl.Model{Sizes: sizes, Tables: cut(numbers, lengths)})
		}
	}
	return list
}

// modelPair is a model of the first signature of a fork and one of the second one.
type modelPair struct {
	m, n impl.Model
}

// checkPut looks whether there is a model of the sum that becomes two models exactly if both become the same model of the third signature, and whether it becomes them. It returns whether both have the same sizes of it, and the same tables.
func (x fork) checkPut(t *testing.T, pair modelPair) [2]bool {
	t.Helper()
	sum, left, right, _ := x.overByHand()
	first, second := impl.ModelBack(x.c, x.a, x.f, pair.m), impl.ModelBack(x.c, x.b, x.g, pair.n)
	whole, ok := impl.SumModel(x.c, x.a, x.b, x.f, x.g, pair.m, pair.n)
	if ok != sameModel(first, second) || !impl.ModelOk(x.c, first) || !impl.ModelOk(x.c, second) {
		t.Fatal("not the same, or not put together", x, pair, first, second, whole, ok)
	}
	if ok {
		wantModel(t, impl.ModelBack(x.a, sum, left, whole), true, pair.m, true, x, pair, whole)
		wantModel(t, impl.ModelBack(x.b, sum, right, whole), true, pair.n, true, x, pair, whole)
		if !impl.ModelOk(sum, whole) {
			t.Fatal("no model", x, pair, whole)
		}
	}
	checkSumModel(t, x, pair.m, pair.n)
	return [2]bool{sameRow(first.Sizes, second.Sizes), sameRows(first.Tables, second.Tables)}
}

// nearModel returns a model with a number of a table changed, or with a size changed and other tables, by chance.
func nearModel(r *rand.Rand, s impl.Sig, m impl.Model) impl.Model {
	if len(m.Tables) == 0 || r.Intn(4) == 0 {
		sizes := slices.Clone(m.Sizes)
		sizes[r.Intn(len(sizes))] = 1 + r.Intn(3)
		return randomModel(r, s, sizes)
	}
	op := r.Intn(len(m.Tables))
	table := slices.Clone(m.Tables[op])
	table[r.Intn(len(table))] = r.Intn(m.Sizes[impl.OpLeaves(s, op)])
	return withTable(m, op, table)
}

func TestP25ModelsThatFitArePutTogether(t *testing.T) {
	r := rand.New(rand.NewSource(130))
	seen := map[[2]bool]int{}
	for _, x := range goodForks(131, 1200) {
		sum, _, _, _ := x.overByHand()
		for _, whole := range someModels(r, sum, 3) {
			m, n := x.backs(whole)
			got, ok := impl.SumModel(x.c, x.a, x.b, x.f, x.g, m, n)
			wantModel(t, got, ok, whole, true, x, m, n)
			for _, pair := range []modelPair{
				{m, n}, {nearModel(r, x.a, m), n}, {m, nearModel(r, x.b, n)},
				{m, randomModel(r, x.b, randomSizes(r, x.b.Sorts, 2))}, {randomModel(r, x.a, randomSizes(r, x.a.Sorts, 2)), n},
			} {
				seen[x.checkPut(t, pair)]++
			}
		}
	}
	wantSeen(t, seen, 4, 300)
}

// All models of few values of both sides, and of the sum: there is just one of it, or none.
func TestP25OnlyOneModelIsPutTogether(t *testing.T) {
	seen := map[[2]bool]int{}
	for _, x := range goodForks(132, 1200) {
		sum, _, _, _ := x.overByHand()
		ms, ns, wholes := fewModels(x.a, 40), fewModels(x.b, 40), fewModels(sum, 300)
		if wholes == nil {
			continue
		}
		var all []modelPair
		for _, whole := range wholes {
			m, n := x.backs(whole)
			all = append(all, modelPair{m, n})
		}
		for _, m := range ms {
			for _, n := range ns {
				var fitting []impl.Model
				for i, other := range all {
					if sameModel(other.m, m) && sameModel(other.n, n) {
						fitting = append(fitting, wholes[i])
					}
				}
				got, ok := impl.SumModel(x.c, x.a, x.b, x.f, x.g, m, n)
				if len(fitting) > 1 || ok != (len(fitting) == 1) || ok && !sameModel(got, fitting[0]) {
					t.Fatal(x, m, n, got, ok, fitting)
				}
				seen[x.checkPut(t, modelPair{m, n})]++
			}
		}
	}
	wantSeen(t, seen, 4, 300)
}

func TestModelsOfSums(t *testing.T) {
	common := forkOf("1:0", "1:0,000", "2:0,01", mapOf([]int{0}, 0), mapOf([]int{0}, 0))
	bare := forkOf("1:", "1:00", "2:0,01", mapOf([]int{0}), mapOf([]int{1}))
	oneSide := forkOf("2:", "1:00", "2:01", mapOf([]int{0, 0}), mapOf([]int{0, 1}))
	oneOp := forkOf("1:00,00", "1:00", "1:00,00,0", mapOf([]int{0}, 0, 0), mapOf([]int{0}, 0, 1))
	chain := forkOf("3:", "2:0,1", "2:0,1", mapOf([]int{0, 0, 1}), mapOf([]int{0, 1, 1}))
	opChain := forkOf("1:00,00,00", "1:00,00", "1:00,00", mapOf([]int{0}, 0, 0, 1), mapOf([]int{0}, 0, 1, 1))
	none := forkOf("1:", "1:", "1:", mapOf([]int{0}), mapOf([]int{0}))
	turn, leave := []int{1, 0}, []int{0, 1}
	or := []int{0, 1, 1, 1}
	for _, c := range []struct {
		x       fork
		m, n    impl.Model
		want    impl.Model
		isThere bool
	}{
		{common, modelOf([]int{2}, []int{1}, or), modelOf([]int{2, 1}, []int{1}, []int{0, 0}), modelOf([]int{2, 1}, []int{1}, or, []int{0, 0}), true},
		{common, modelOf([]int{2}, []int{1}, or), modelOf([]int{2, 3}, []int{1}, []int{2, 1}), modelOf([]int{2, 3}, []int{1}, or, []int{2, 1}), true},
		{common, modelOf([]int{1}, []int{0}, []int{0}), modelOf([]int{1, 3}, []int{0}, []int{2}), modelOf([]int{1, 3}, []int{0}, []int{0}, []int{2}), true},
		// Another table of the common operation, and another size of the common sort.
		{common, modelOf([]int{2}, []int{1}, or), modelOf([]int{2, 1}, []int{0}, []int{0, 0}), impl.Model{}, false},
		{common, modelOf([]int{2}, []int{0}, or), modelOf([]int{2, 1}, []int{1}, []int{0, 0}), impl.Model{}, false},
		{common, modelOf([]int{2}, []int{0}, or), modelOf([]int{1, 1}, []int{0}, []int{0}), impl.Model{}, false},
		{common, modelOf([]int{2}, []int{0}, or), modelOf([]int{3, 2}, []int{0}, []int{0, 0, 1}), impl.Model{}, false},
		// A common part without operations: the common sort is the second one of the second signature.
		{bare, modelOf([]int{2}, turn), modelOf([]int{3, 2}, []int{2}, []int{0, 1, 1}), modelOf([]int{2, 3}, turn, []int{2}, []int{0, 1, 1}), true},
		{bare, modelOf([]int{3}, []int{0, 0, 0}), modelOf([]int{3, 2}, []int{2}, []int{0, 1, 1}), impl.Model{}, false},
		{bare, modelOf([]int{2}, turn), modelOf([]int{2, 1}, []int{1}, []int{0, 0}), impl.Model{}, false},
		// Two sorts of one signature that become one: of one size, and of different ones.
		{oneSide, modelOf([]int{2}, turn), modelOf([]int{2, 2}, leave), modelOf([]int{2}, turn, leave), true},
		{oneSide, modelOf([]int{2}, turn), modelOf([]int{2, 1}, []int{0, 0}), impl.Model{}, false},
		{oneSide, modelOf([]int{2}, turn), modelOf([]int{1, 2}, []int{1}), impl.Model{}, false},
		{oneSide, modelOf([]int{2}, turn), modelOf([]int{3, 3}, []int{1, 0, 2}), impl.Model{}, false},
		{oneSide.swapped(), modelOf([]int{2, 2}, leave), modelOf([]int{2}, turn), modelOf([]int{2}, leave, turn), true},
		{oneSide.swapped(), modelOf([]int{2, 1}, []int{0, 0}), modelOf([]int{2}, turn), impl.Model{}, false},
		{oneSide.swapped(), modelOf([]int{1, 2}, []int{1}), modelOf([]int{2}, turn), impl.Model{}, false},
		{chain, modelOf([]int{2, 2}, []int{0}, []int{1}), modelOf([]int{2, 2}, []int{1}, []int{0}), modelOf([]int{2}, []int{0}, []int{1}, []int{1}, []int{0}), true},
		{chain, modelOf([]int{2, 1}, []int{0}, []int{0}), modelOf([]int{2, 2}, []int{1}, []int{0}), impl.Model{}, false},
		{chain, modelOf([]int{2, 1}, []int{0}, []int{0}), modelOf([]int{2, 1}, []int{1}, []int{0}), impl.Model{}, false},
		{chain, modelOf([]int{1, 2}, []int{0}, []int{0}), modelOf([]int{1, 2}, []int{0}, []int{0}), impl.Model{}, false},
		// Two operations that become one: with the same tables, and with different ones.
		{oneOp, modelOf([]int{2}, turn), modelOf([]int{2}, turn, turn, []int{1}), modelOf([]int{2}, turn, []int{1}), true},
		{oneOp, modelOf([]int{2}, turn), modelOf([]int{2}, turn, leave, []int{1}), impl.Model{}, false},
		{oneOp, modelOf([]int{2}, turn), modelOf([]int{2}, leave, turn, []int{1}), impl.Model{}, false},
		{oneOp, modelOf([]int{2}, turn), modelOf([]int{2}, leave, leave, []int{1}), impl.Model{}, false},
		{opChain, modelOf([]int{2}, turn, turn), modelOf([]int{2}, turn, turn), modelOf([]int{2}, turn), true},
		{opChain, modelOf([]int{2}, turn, leave), modelOf([]int{2}, turn, leave), impl.Model{}, false},
		{opChain, modelOf([]int{2}, turn, turn), modelOf([]int{2}, turn, leave), impl.Model{}, false},
		{opChain, modelOf([]int{2}, leave, turn), modelOf([]int{2}, turn, turn), impl.Model{}, false},
		// Without operations, with each size.
		{none, modelOf([]int{1}), modelOf([]int{1}), modelOf([]int{1}), true},
		{none, modelOf([]int{3}), modelOf([]int{3}), modelOf([]int{3}), true},
		{none, modelOf([]int{1}), modelOf([]int{3}), impl.Model{}, false},
		{none, modelOf([]int{2}), modelOf([]int{1}), impl.Model{}, false},
		{forkOf("1:", "2:", "2:", mapOf([]int{1}), mapOf([]int{0})), modelOf([]int{1, 2}), modelOf([]int{2, 3}), modelOf([]int{1, 2, 3}), true},
		{forkOf("1:", "2:", "2:", mapOf([]int{1}), mapOf([]int{1})), modelOf([]int{1, 2}), modelOf([]int{3, 2}), modelOf([]int{1, 2, 3}), true},
		{forkOf("1:", "2:", "2:", mapOf([]int{1}), mapOf([]int{1})), modelOf([]int{1, 2}), modelOf([]int{2, 3}), impl.Model{}, false},
	} {
		whole, ok := impl.SumModel(c.x.c, c.x.a, c.x.b, c.x.f, c.x.g, c.m, c.n)
		wantModel(t, whole, ok, c.want, c.isThere, c)
		checkSumModel(t, c.x, c.m, c.n)
	}
}

// noSumModel fails if there is a model of a sum.
func noSumModel(t *testing.T, x fork, m, n impl.Model) {
	t.Helper()
	whole, ok := impl.SumModel(x.c, x.a, x.b, x.f, x.g, m, n)
	wantModel(t, whole, ok, impl.Model{}, false, x, m, n)
}

func TestModelsOfSumsOfWhatIsNotValid(t *testing.T) {
	r := rand.New(rand.NewSource(133))
	for _, x := range knownForks() {
		sum, _, _, _ := x.overByHand()
		one, other := oneValue(x.a), oneValue(x.b)
		m, n := x.backs(randomModel(r, sum, []int{2, 3, 2}[:sum.Sorts]))
		if !checkSumModel(t, x, one, other) || !checkSumModel(t, x, m, n) {
			t.Fatal("none", x)
		}
		for _, bad := range append(badModels(x.a, m), badModels(x.a, one)...) {
			noSumModel(t, x, bad, n)
			noSumModel(t, x, bad, other)
			noSumModel(t, x, bad, bad)
			noSumModel(t, x, bad, impl.Model{})
			noSumModel(t, fork{x.a, x.a, x.a, impl.MapSelf(x.a), impl.MapSelf(x.a)}, bad, bad)
		}
		for _, bad := range append(badModels(x.b, n), badModels(x.b, other)...) {
			noSumModel(t, x, m, bad)
			noSumModel(t, x, one, bad)
			noSumModel(t, x, impl.Model{}, bad)
		}
		for _, bad := range badForks(x) {
			noSumModel(t, bad, one, other)
			noSumModel(t, bad, oneValue(bad.a), oneValue(bad.b))
			noSumModel(t, bad, impl.Model{}, impl.Model{})
		}
	}
	// Models exchanged, though both have the same sizes.
	x := forkOf("1:", "1:00", "1:000", mapOf([]int{0}), mapOf([]int{0}))
	noSumModel(t, x, modelOf([]int{2}, []int{0, 1, 1, 0}), modelOf([]int{2}, []int{0, 1}))
	// The models become the same, and the sum has too many sorts, or too many operations.
	two, three, four := sigOf("2:"), sigOf("3:"), sigOf("1:0,0,0,0")
	noSumModel(t, fork{sigOf("1:"), two, three, mapOf([]int{0}), mapOf([]int{0})}, modelOf([]int{2, 2}), modelOf([]int{2, 1, 1}))
	noSumModel(t, fork{sigOf("1:"), four, four, mapOf([]int{0}), mapOf([]int{0})}, oneValue(four), oneValue(four))
	for _, x := range manyForks(134, 1500) {
		if _, _, _, ok := x.overByHand(); !ok {
			noSumModel(t, x, oneValue(x.a), oneValue(x.b))
		}
	}
}
