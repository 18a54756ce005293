package tests

import (
	"math"
	"math/rand"
	"slices"
	"testing"

	"loop.example/theorymodules/impl"
)

// fact is what an operation leaves of a row of values, as its table tells it.
type fact struct {
	op     int
	values []int
	left   int
}

// factsOf returns all that the tables of a model tell.
func factsOf(s impl.Sig, m impl.Model) []fact {
	var list []fact
	for op, table := range m.Tables {
		for i, values := range allRows(sizesByHand(m, impl.OpTakes(s, op))) {
			list = append(list, fact{op, values, table[i]})
		}
	}
	return list
}

// withRows returns what stands for each value of a row in the row of its sort.
func withRows(rows [][]int, sorts, values []int) []int {
	var led []int
	for i, value := range values {
		led = append(led, rows[sorts[i]][value])
	}
	return led
}

// homByHand is HomOk as the document tells it.
func homByHand(s impl.Sig, a, b impl.Model, h [][]int) bool {
	if !modelByHand(s, a) || !modelByHand(s, b) || len(h) != s.Sorts {
		return false
	}
	for sort, row := range h {
		rows := allRows(slices.Repeat([]int{b.Sizes[sort]}, a.Sizes[sort]))
		if !slices.ContainsFunc(rows, func(other []int) bool { return sameRow(row, other) }) {
			return false
		}
	}
	return alongByHand(s, factsOf(s, a), factsOf(s, b), h)
}

// alongByHand reports whether rows lead each fact of a model to a fact of another one.
func alongByHand(s impl.Sig, a, b []fact, h [][]int) bool {
	for _, f := range a {
		led := withRows(h, impl.OpTakes(s, f.op), f.values)
		left := h[impl.OpLeaves(s, f.op)][f.left]
		if !slices.ContainsFunc(b, func(g fact) bool { return g.op == f.op && g.left == left && sameRow(g.values, led) }) {
			return false
		}
	}
	return true
}

// cut returns the parts of a row, of some lengths.
func cut(row, lengths []int) [][]int {
	var parts [][]int
	for _, length := range lengths {
		parts = append(parts, row[:length])
		row = row[length:]
	}
	return parts
}

// homsByHand is HomsOf as the document tells it.
func homsByHand(s impl.Sig, a, b impl.Model) [][][]int {
	if !modelByHand(s, a) || !modelByHand(s, b) {
		return nil
	}
	var choices []int
	ways := 1
	for sort, size := range a.Sizes {
		for range size {
			choices = append(choices, b.Sizes[sort])
			ways *= b.Sizes[sort]
		}
	}
	if ways > 3000 {
		return nil
	}
	var list [][][]int
	first, second := factsOf(s, a), factsOf(s, b)
	for _, row := range allRows(choices) {
		if h := cut(row, a.Sizes); alongByHand(s, first, second, h) {
			list = append(list, h)
		}
	}
	return list
}

// setOf returns the number of a set of values.
func setOf(values ...int) int {
	set := 0
	for _, value := range values {
		set += []int{1, 2, 4}[value]
	}
	return set
}

// valuesOf returns the values of a set.
func valuesOf(set int) []int {
	return [][]int{nil, {0}, {1}, {0, 1}, {2}, {0, 2}, {1, 2}, {0, 1, 2}}[set]
}

// allSets returns all ways to choose a set of values for each sort of a model.
func allSets(m impl.Model) [][]int {
	var many []int
	for _, size := range m.Sizes {
		many = append(many, []int{2, 4, 8}[size-1])
	}
	return allRows(many)
}

// fullSets returns the sets of all values.
func fullSets(m impl.Model) []int {
	list := allSets(m)
	return list[len(list)-1]
}

// setsByHand reports whether there is a set of values for each sort of a model.
func setsByHand(m impl.Model, sets []int) bool {
	return slices.ContainsFunc(allSets(m), func(other []int) bool { return sameRow(sets, other) })
}

// within reports whether values are in the sets for their sorts.
func within(sets []int, sorts, values []int) bool {
	for i, value := range values {
		if !slices.Contains(valuesOf(sets[sorts[i]]), value) {
			return false
		}
	}
	return true
}

// leaveByHand reports whether operations leave sets.
func leaveByHand(s impl.Sig, facts []fact, sets []int) bool {
	return slices.ContainsFunc(facts, func(f fact) bool {
		return within(sets, impl.OpTakes(s, f.op), f.values) && !slices.Contains(valuesOf(sets[impl.OpLeaves(s, f.op)]), f.left)
	})
}

// madeByHand is MadeOf as the document tells it: the values that are in all sets that hold those that are given, and which operations do not leave.
func madeByHand(s impl.Sig, m impl.Model, sets []int) []int {
	if !modelByHand(s, m) || !setsByHand(m, sets) {
		return nil
	}
	facts, made := factsOf(s, m), fullSets(m)
	for _, others := range allSets(m) {
		holds := true
		for sort := range sets {
			holds = holds && sets[sort]&others[sort] == sets[sort]
		}
		if !holds || leaveByHand(s, facts, others) {
			continue
		}
		both := slices.Clone(made)
		for sort := range both {
			both[sort] &= others[sort]
		}
		made = both
	}
	return made
}

// partModelByHand is PartModel as the document tells it.
func partModelByHand(s impl.Sig, m impl.Model, sets []int) (impl.Model, bool) {
	if !modelByHand(s, m) || !setsByHand(m, sets) || slices.Contains(sets, 0) || leaveByHand(s, factsOf(s, m), sets) {
		return impl.Model{}, false
	}
	part := impl.Model{}
	var kept [][]int
	for _, set := range sets {
		kept = append(kept, valuesOf(set))
		part.Sizes = append(part.Sizes, len(valuesOf(set)))
	}
	for op := range s.Ops {
		takes := impl.OpTakes(s, op)
		var table []int
		for _, row := range allRows(sizesByHand(part, takes)) {
			left := toldByHand(s, m, op, withRows(kept, takes, row))
			table = append(table, slices.Index(kept[impl.OpLeaves(s, op)], left))
		}
		part.Tables = append(part.Tables, table)
	}
	return part, true
}

// classesOf returns all ways to put so many values into classes, each value told by the least one of its class.
func classesOf(size int) [][]int {
	return [][][]int{{{0}}, {{0, 0}, {0, 1}}, {{0, 0, 0}, {0, 0, 2}, {0, 1, 0}, {0, 1, 1}, {0, 1, 2}}}[size-1]
}

// allClasses returns all ways to put the values of each sort of a model into classes.
func allClasses(m impl.Model) [][][]int {
	list := [][][]int{nil}
	for _, size := range m.Sizes {
		var longer [][][]int
		for _, rows := range list {
			for _, row := range classesOf(size) {
				longer = append(longer, append(slices.Clone(rows), row))
			}
		}
		list = longer
	}
	return list
}

// goAlongByHand reports whether what operations leave of values of the same classes is of the same class.
func goAlongByHand(s impl.Sig, facts []fact, classes [][]int) bool {
	for _, f := range facts {
		takes, leaves := impl.OpTakes(s, f.op), impl.OpLeaves(s, f.op)
		for _, g := range facts {
			same := f.op == g.op && sameRow(withRows(classes, takes, f.values), withRows(classes, takes, g.values))
			if same && classes[leaves][f.left] != classes[leaves][g.left] {
				return false
			}
		}
	}
	return true
}

// sameByHand is SameMade as the document tells it: values are the same if they are so whenever the two are and operations go along.
func sameByHand(s impl.Sig, m impl.Model, sort, x, y int) [][]int {
	if !modelByHand(s, m) || sort < 0 || sort >= s.Sorts || min(x, y) < 0 || max(x, y) >= m.Sizes[sort] {
		return nil
	}
	facts := factsOf(s, m)
	var list [][][]int
	for _, classes := range allClasses(m) {
		if classes[sort][x] == classes[sort][y] && goAlongByHand(s, facts, classes) {
			list = append(list, classes)
		}
	}
	var same [][]int
	for i, size := range m.Sizes {
		var row []int
		for value := range size {
			least := 0
			for slices.ContainsFunc(list, func(classes [][]int) bool { return classes[i][least] != classes[i][value] }) {
				least++
			}
			row = append(row, least)
		}
		same = append(same, row)
	}
	return same
}

// quotientByHand is QuotientOf as the document tells it: it asks what operations leave of the last values of classes.
func quotientByHand(s impl.Sig, m impl.Model, classes [][]int) (impl.Model, [][]int, bool) {
	if !modelByHand(s, m) || !slices.ContainsFunc(allClasses(m), func(other [][]int) bool { return sameRows(classes, other) }) || !goAlongByHand(s, factsOf(s, m), classes) {
		return impl.Model{}, nil, false
	}
	quotient := impl.Model{}
	var h, last [][]int
	for _, row := range classes {
		var least, behind, led []int
		for value, class := range row {
			if value == class {
				least, behind = append(least, value), append(behind, value)
			}
			at := slices.Index(least, class)
			behind[at] = value
			led = append(led, at)
		}
		h, last = append(h, led), append(last, behind)
		quotient.Sizes = append(quotient.Sizes, len(least))
	}
	for op := range s.Ops {
		takes := impl.OpTakes(s, op)
		var table []int
		for _, row := range allRows(sizesByHand(quotient, takes)) {
			table = append(table, h[impl.OpLeaves(s, op)][toldByHand(s, m, op, withRows(last, takes, row))])
		}
		quotient.Tables = append(quotient.Tables, table)
	}
	return quotient, h, true
}

// kernelByHand is KernelOf as the document tells it.
func kernelByHand(s impl.Sig, a, b impl.Model, h [][]int) [][]int {
	if !homByHand(s, a, b, h) {
		return nil
	}
	var least [][]int
	for sort, size := range a.Sizes {
		var row []int
		for value := range size {
			other := 0
			for h[sort][other] != h[sort][value] {
				other++
			}
			row = append(row, other)
		}
		least = append(least, row)
	}
	return least
}

// imageByHand is ImageOf as the document tells it.
func imageByHand(s impl.Sig, a, b impl.Model, h [][]int) []int {
	if !homByHand(s, a, b, h) {
		return nil
	}
	var sets []int
	for sort, size := range b.Sizes {
		var values []int
		for value := range size {
			if slices.Contains(h[sort], value) {
				values = append(values, value)
			}
		}
		sets = append(sets, setOf(values...))
	}
	return sets
}

// wantRows fails if rows are not those that are wanted, or not nil if none are.
func wantRows(t *testing.T, got, want [][]int, about ...any) {
	t.Helper()
	if !sameRows(got, want) || want == nil && got != nil {
		t.Fatal("got", got, "wanted", want, "for", about)
	}
}

// wantSets fails if sets are not those that are wanted, or not nil if none are.
func wantSets(t *testing.T, got, want []int, about ...any) {
	t.Helper()
	wantRow(t, got, got != nil, want, want != nil, about...)
}

// quietModel returns a model with tables that tell the lesser or the greater value, a value that is taken, or always one, as far as the sort that is left has it: such models have many parts and quotients, which those by chance seldom have.
func quietModel(r *rand.Rand, s impl.Sig, sizes []int) impl.Model {
	m := zeroModel(s, sizes)
	for op, table := range m.Tables {
		last, kind, shift := sizes[impl.OpLeaves(s, op)]-1, r.Intn(5), r.Intn(2)
		for i, row := range allRows(sizesByHand(m, impl.OpTakes(s, op))) {
			if len(row) == 0 {
				row = []int{kind}
			}
			table[i] = []int{slices.Min(row), slices.Max(row), row[0] + shift, row[len(row)-1], shift}[kind]
			table[i] = min(table[i], last)
		}
	}
	return m
}

// tamed returns a model in which some operations of one of a sort to itself done twice do nothing, others are done once then, and some of two of a sort may be turned (evened), by chance.
func tamed(r *rand.Rand, s impl.Sig, m impl.Model) impl.Model {
	evened(r, s, m)
	for op, row := range s.Ops {
		if len(row) == 2 && row[0] == row[1] && r.Intn(2) == 0 {
			swaps := [][][]int{{{0}}, {{0, 1}, {1, 0}}, {{0, 1, 2}, {0, 2, 1}, {2, 1, 0}, {1, 0, 2}}}[m.Sizes[row[0]]-1]
			copy(m.Tables[op], swaps[r.Intn(len(swaps))])
		}
	}
	return m
}

// manyModels returns the model in which each sort has one value, and others by chance, of all kinds.
func manyModels(r *rand.Rand, s impl.Sig, many int) []impl.Model {
	list := []impl.Model{oneValue(s)}
	for range many {
		sizes := randomSizes(r, s.Sorts, 3)
		m := randomModel(r, s, sizes)
		if r.Intn(3) > 0 {
			m = quietModel(r, s, sizes)
		}
		if r.Intn(2) == 0 {
			m = tamed(r, s, m)
		}
		list = append(list, m)
	}
	return list
}

// aloneEqs returns what may be asked of operations alone: that one of two of a sort may be turned, and that one of one of a sort to itself done twice is done once, and that it is nothing.
func aloneEqs(s impl.Sig) []impl.Eq {
	list := askedEqs(s)
	for op, row := range s.Ops {
		if len(row) == 2 && row[0] == row[1] {
			list = append(list, impl.Eq{Vars: row[:1], Left: []int{op, op, 100}, Right: []int{100}})
		}
	}
	return list
}

// checkKept looks whether what may be asked of operations alone, and other equations by chance, hold in what is made of a model if they hold in the model, and counts where the former hold.
func checkKept(t *testing.T, r *rand.Rand, c setting, m, made impl.Model, seen map[[2]bool]int) {
	t.Helper()
	alone := aloneEqs(c.s)
	for i, e := range append(alone, modelEqs(r, c, 4)...) {
		before, after := impl.Holds(c.s, m, e), impl.Holds(c.s, made, e)
		if before && !after {
			t.Fatal("not kept", c, m, made, e)
		}
		if i < len(alone) {
			seen[[2]bool{before, after}]++
		}
	}
}

// wantSeen fails if there are not so many kinds of what was counted, or too few of one of them.
func wantSeen[K comparable](t *testing.T, seen map[K]int, kinds, least int) {
	t.Helper()
	if len(seen) != kinds {
		t.Fatal(seen)
	}
	for _, many := range seen {
		if many < least {
			t.Fatal(seen)
		}
	}
}

// leading is a map of a model to another one.
type leading struct {
	s    impl.Sig
	a, b impl.Model
	h    [][]int
}

// selfRows returns the rows that leave all values of a model.
func selfRows(m impl.Model) [][]int {
	var rows [][]int
	for _, size := range m.Sizes {
		rows = append(rows, []int{0, 1, 2}[:size])
	}
	return rows
}

// zeroRows returns the rows that lead all values of a model to 0.
func zeroRows(m impl.Model) [][]int {
	var rows [][]int
	for _, size := range m.Sizes {
		rows = append(rows, make([]int, size))
	}
	return rows
}

// leadingsOf returns maps from a model and to it: the one that leaves all, the one to the model in which each sort has one value, that of a part to it, those to a quotient of it and of a part of it to a quotient of it, and some of those to itself.
func leadingsOf(r *rand.Rand, s impl.Sig, m impl.Model) []leading {
	list := []leading{{s, m, m, selfRows(m)}, {s, m, oneValue(s), zeroRows(m)}}
	quotients, parts := allClasses(m), allSets(m)
	for range 3 {
		quotient, h, ok := quotientByHand(s, m, quotients[r.Intn(len(quotients))])
		if ok {
			list = append(list, leading{s, m, quotient, h})
		}
		sets := madeByHand(s, m, parts[r.Intn(len(parts))])
		part, okPart := partModelByHand(s, m, sets)
		if !okPart {
			continue
		}
		var kept, both [][]int
		for sort, set := range sets {
			kept = append(kept, valuesOf(set))
			if ok {
				both = append(both, withRows(h, slices.Repeat([]int{sort}, len(kept[sort])), kept[sort]))
			}
		}
		list = append(list, leading{s, part, m, kept})
		if ok {
			list = append(list, leading{s, part, quotient, both})
		}
	}
	if slices.Max(m.Sizes) < 3 || s.Sorts == 1 {
		selves := homsByHand(s, m, m)
		for range 2 {
			list = append(list, leading{s, m, m, selves[r.Intn(len(selves))]})
		}
	}
	return list
}

// someLeadings returns maps of models of a signature, by chance.
func someLeadings(r *rand.Rand, s impl.Sig, many int) []leading {
	var list []leading
	for _, m := range manyModels(r, s, many) {
		list = append(list, leadingsOf(r, s, m)...)
	}
	return list
}

// withRow returns rows with another one for a sort.
func withRow(rows [][]int, sort int, row []int) [][]int {
	changed := slices.Clone(rows)
	changed[sort] = row
	return changed
}

// wrongRows returns rows that cannot lead the values of a model to values of other sizes, each made from such ones by one change.
func wrongRows(h [][]int, sizes []int) [][][]int {
	list := [][][]int{nil, {}, h[1:], append(slices.Clone(h), nil), append(slices.Clone(h), []int{0}), make([][]int, len(h)), append([][]int{{0}}, h...)}
	for sort, row := range h {
		list = append(list, withRow(h, sort, nil), withRow(h, sort, row[1:]), withRow(h, sort, row[:len(row)-1]), withRow(h, sort, joined(row, []int{0})), withRow(h, sort, joined(row, row)))
		for at := range row {
			for _, wrong := range []int{-1, sizes[sort], sizes[sort] + 1, 100, math.MaxInt, math.MinInt} {
				other := slices.Clone(row)
				other[at] = wrong
				list = append(list, withRow(h, sort, other))
			}
		}
	}
	return list
}

// wrongSets returns what are no sets of values of a model, each made from such ones by one change.
func wrongSets(m impl.Model, sets []int) [][]int {
	list := [][]int{nil, {}, sets[1:], joined(sets, []int{0}), joined(sets, []int{1}), joined([]int{1}, sets), make([]int, 1000)}
	for sort, size := range m.Sizes {
		past := []int{2, 4, 8}[size-1]
		for _, wrong := range []int{-1, -past, past, past + 1, 2 * past, past + sets[sort], 1 << 32, math.MaxInt, math.MinInt, math.MinInt + 1} {
			other := slices.Clone(sets)
			other[sort] = wrong
			list = append(list, other)
		}
	}
	return list
}
