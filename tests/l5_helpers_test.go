package tests

import (
	"math"
	"math/rand"
	"slices"
	"testing"

	"loop.example/theorymodules/impl"
)

// allRows returns all rows of values, for how many there are at each place, the lesser number at the first difference first.
func allRows(sizes []int) [][]int {
	rows := [][]int{nil}
	for i := len(sizes) - 1; i >= 0; i-- {
		var longer [][]int
		for value := range sizes[i] {
			for _, row := range rows {
				longer = append(longer, joined([]int{value}, row))
			}
		}
		rows = longer
	}
	return rows
}

// sizesByHand returns how many values each of some sorts has.
func sizesByHand(m impl.Model, sorts []int) []int {
	var sizes []int
	for _, sort := range sorts {
		sizes = append(sizes, m.Sizes[sort])
	}
	return sizes
}

// modelByHand is ModelOk as the document tells it.
func modelByHand(s impl.Sig, m impl.Model) bool {
	if !impl.SigValid(s) || len(m.Sizes) != s.Sorts || len(m.Tables) != len(s.Ops) {
		return false
	}
	for _, size := range m.Sizes {
		if size != 1 && size != 2 && size != 3 {
			return false
		}
	}
	for op, table := range m.Tables {
		if len(table) != len(allRows(sizesByHand(m, impl.OpTakes(s, op)))) {
			return false
		}
		for _, value := range table {
			if value < 0 || value >= m.Sizes[impl.OpLeaves(s, op)] {
				return false
			}
		}
	}
	return true
}

// valuesByHand is ValuesOk as the document tells it.
func valuesByHand(s impl.Sig, m impl.Model, vars, values []int) bool {
	if !varsByHand(s, vars) || !modelByHand(s, m) {
		return false
	}
	return slices.ContainsFunc(allRows(sizesByHand(m, vars)), func(row []int) bool { return sameRow(row, values) })
}

// toldByHand returns what an operation leaves of a row of values.
func toldByHand(s impl.Sig, m impl.Model, op int, values []int) int {
	for i, row := range allRows(sizesByHand(m, impl.OpTakes(s, op))) {
		if sameRow(row, values) {
			return m.Tables[op][i]
		}
	}
	panic("no row of values")
}

// value returns the value of a term for values of its letters.
func (t tree) value(s impl.Sig, m impl.Model, values []int) int {
	if t.number >= 100 {
		return values[t.number-100]
	}
	var taken []int
	for _, part := range t.takes {
		taken = append(taken, part.value(s, m, values))
	}
	return toldByHand(s, m, t.number, taken)
}

// valueByHand is ValueOf as the document tells it.
func valueByHand(s impl.Sig, m impl.Model, vars, row, values []int) int {
	t, ok := treeByHand(s, vars, row)
	if !ok || !valuesByHand(s, m, vars, values) {
		return -1
	}
	return t.value(s, m, values)
}

// failsByHand is FailsAt as the document tells it.
func failsByHand(s impl.Sig, m impl.Model, e impl.Eq) ([]int, bool) {
	if !eqByHand(s, e) || !modelByHand(s, m) {
		return nil, false
	}
	left, _ := treeByHand(s, e.Vars, e.Left)
	right, _ := treeByHand(s, e.Vars, e.Right)
	for _, values := range allRows(sizesByHand(m, e.Vars)) {
		if left.value(s, m, values) != right.value(s, m, values) {
			return values, true
		}
	}
	return nil, false
}

// holdsByHand is Holds as the document tells it.
func holdsByHand(s impl.Sig, m impl.Model, e impl.Eq) bool {
	_, fails := failsByHand(s, m, e)
	return !fails && eqByHand(s, e) && modelByHand(s, m)
}

// isModelByHand is IsModel as the document tells it.
func isModelByHand(t impl.Theory, m impl.Model) bool {
	ok := theoryByHand(t) && modelByHand(t.Over, m)
	for _, e := range t.Axioms {
		ok = ok && holdsByHand(t.Over, m, e)
	}
	return ok
}

// modelBackByHand is ModelBack as the document tells it.
func modelBackByHand(x road, m impl.Model) impl.Model {
	if !okByHand(x.a, x.b, x.m) || !modelByHand(x.b, m) {
		return impl.Model{}
	}
	back := impl.Model{Sizes: sizesByHand(m, x.m.Sorts)}
	for _, op := range x.m.Ops {
		back.Tables = append(back.Tables, m.Tables[op])
	}
	return back
}

// pairByHand is ModelPair as the document tells it: of each row of values of the first one and each of the second one it asks where the row of pairs stands.
func pairByHand(s impl.Sig, a, b impl.Model) (impl.Model, bool) {
	if !modelByHand(s, a) || !modelByHand(s, b) {
		return impl.Model{}, false
	}
	m := impl.Model{}
	for sort := range s.Sorts {
		m.Sizes = append(m.Sizes, len(allRows([]int{a.Sizes[sort], b.Sizes[sort]})))
		if m.Sizes[sort] > 3 {
			return impl.Model{}, false
		}
	}
	for op := range s.Ops {
		takes, leaves := impl.OpTakes(s, op), impl.OpLeaves(s, op)
		rows := allRows(sizesByHand(m, takes))
		table := make([]int, len(rows))
		for _, ks := range allRows(sizesByHand(a, takes)) {
			for _, js := range allRows(sizesByHand(b, takes)) {
				var pairs []int
				for i, sort := range takes {
					pairs = append(pairs, b.Sizes[sort]*ks[i]+js[i])
				}
				at := slices.IndexFunc(rows, func(row []int) bool { return sameRow(row, pairs) })
				table[at] = b.Sizes[leaves]*toldByHand(s, a, op, ks) + toldByHand(s, b, op, js)
			}
		}
		m.Tables = append(m.Tables, table)
	}
	return m, true
}

func sameModel(a, b impl.Model) bool {
	return sameRow(a.Sizes, b.Sizes) && sameRows(a.Tables, b.Tables)
}

// wantModel fails if a model and its bool are not those that are wanted, or if there is something beside false.
func wantModel(t *testing.T, got impl.Model, ok bool, want impl.Model, wantOk bool, about ...any) {
	t.Helper()
	if ok != wantOk || !sameModel(got, want) {
		t.Fatal("got", got, ok, "wanted", want, wantOk, "for", about)
	}
}

// modelOf returns a model that a test needs.
func modelOf(sizes []int, tables ...[]int) impl.Model {
	return impl.Model{Sizes: sizes, Tables: tables}
}

// oneValue returns the model in which each sort has one value, as far as it can be written down for a signature that is not valid.
func oneValue(s impl.Sig) impl.Model {
	m := impl.Model{}
	for range min(s.Sorts, 1000) {
		m.Sizes = append(m.Sizes, 1)
	}
	for range s.Ops {
		m.Tables = append(m.Tables, []int{0})
	}
	return m
}

// zeroModel returns what has some sizes, which need not be those of a model, and tables of zeros that are as long as these sizes ask for.
func zeroModel(s impl.Sig, sizes []int) impl.Model {
	m := impl.Model{Sizes: sizes}
	for _, row := range s.Ops {
		m.Tables = append(m.Tables, make([]int, len(allRows(sizesByHand(m, row[:len(row)-1])))))
	}
	return m
}

// randomModel returns a model with tables by chance.
func randomModel(r *rand.Rand, s impl.Sig, sizes []int) impl.Model {
	m := zeroModel(s, sizes)
	for op, table := range m.Tables {
		for i := range table {
			table[i] = r.Intn(sizes[impl.OpLeaves(s, op)])
		}
	}
	return m
}

// randomSizes returns for each sort a number of values, by chance.
func randomSizes(r *rand.Rand, sorts, most int) []int {
	sizes := make([]int, sorts)
	for i := range sizes {
		sizes[i] = 1 + r.Intn(most)
	}
	return sizes
}

// someModels returns the model in which each sort has one value, and others by chance.
func someModels(r *rand.Rand, s impl.Sig, many int) []impl.Model {
	list := []impl.Model{oneValue(s)}
	for range many {
		list = append(list, randomModel(r, s, randomSizes(r, s.Sorts, 3)))
	}
	return list
}

// badModels returns what is no model of a signature, each made from a model of it by one change.
func badModels(s impl.Sig, m impl.Model) []impl.Model {
	list := []impl.Model{
		{},
		{Tables: m.Tables},
		{Sizes: m.Sizes[1:], Tables: m.Tables},
		{Sizes: joined(m.Sizes, []int{1}), Tables: m.Tables},
		{Sizes: m.Sizes, Tables: append(slices.Clone(m.Tables), []int{0})},
	}
	for sort := range m.Sizes {
		for _, wrong := range []int{-1, 0, 4, math.MaxInt, math.MinInt} {
			sizes := slices.Clone(m.Sizes)
			sizes[sort] = wrong
			list = append(list, impl.Model{Sizes: sizes, Tables: m.Tables})
		}
	}
	for op, table := range m.Tables {
		size := m.Sizes[impl.OpLeaves(s, op)]
		list = append(list,
			impl.Model{Sizes: m.Sizes, Tables: slices.Delete(slices.Clone(m.Tables), op, op+1)},
			withTable(m, op, nil),
			withTable(m, op, table[1:]),
			withTable(m, op, table[:len(table)-1]),
			withTable(m, op, joined(table, []int{0})),
			withTable(m, op, joined(table, table)))
		for at := range table {
			for _, wrong := range []int{-1, size, size + 1, 100, math.MaxInt, math.MinInt} {
				other := slices.Clone(table)
				other[at] = wrong
				list = append(list, withTable(m, op, other))
			}
		}
	}
	return list
}

// withTable returns a model with another table for an operation.
func withTable(m impl.Model, op int, table []int) impl.Model {
	tables := slices.Clone(m.Tables)
	tables[op] = table
	return impl.Model{Sizes: m.Sizes, Tables: tables}
}

// knownModels returns models of 1:000,0,00: three groups, one of them with the unit 1, the lesser of two values, the first of two values, and one in which nothing holds that is asked of operations.
func knownModels() []impl.Model {
	return []impl.Model{
		modelOf([]int{2}, []int{0, 1, 1, 0}, []int{0}, []int{0, 1}),
		modelOf([]int{3}, []int{0, 1, 2, 1, 2, 0, 2, 0, 1}, []int{0}, []int{0, 2, 1}),
		modelOf([]int{2}, []int{1, 0, 0, 1}, []int{1}, []int{0, 1}),
		modelOf([]int{3}, []int{0, 0, 0, 0, 1, 1, 0, 1, 2}, []int{2}, []int{2, 1, 0}),
		modelOf([]int{2}, []int{0, 0, 1, 1}, []int{1}, []int{1, 0}),
		modelOf([]int{3}, []int{1, 2, 0, 0, 0, 1, 2, 1, 1}, []int{1}, []int{1, 2, 2}),
	}
}
