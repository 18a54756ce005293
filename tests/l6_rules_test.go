package tests

import (
	"math"
	"math/rand"
	"slices"
	"testing"

	"loop.example/theorymodules/impl"
)

// partArgs are arguments of the functions of the chapter: a signature, two models of it and a map of the first one to the second one, sets and classes of values of the first one, and a sort with two values of it.
type partArgs struct {
	S          impl.Sig
	A, B       impl.Model
	H          [][]int
	Sets       []int
	Classes    [][]int
	Sort, X, Y int
}

// partArgsFor returns arguments that fit each other, for a map of models.
func partArgsFor(r *rand.Rand, x leading) partArgs {
	sort := r.Intn(x.s.Sorts)
	a := partArgs{x.s, x.a, x.b, x.h, nil, nil, sort, r.Intn(x.a.Sizes[sort]), r.Intn(x.a.Sizes[sort])}
	sets, classes := allSets(x.a), allClasses(x.a)
	a.Sets, a.Classes = sets[r.Intn(len(sets))], classes[r.Intn(len(classes))]
	if r.Intn(2) == 0 {
		a.Sets = madeByHand(x.s, x.a, a.Sets)
		a.Classes = kernelByHand(x.s, x.a, x.b, x.h)
	}
	return a
}

// anyRows returns rows that have nothing to do with each other.
func anyRows(r *rand.Rand) [][]int {
	rows := make([][]int, r.Intn(5))
	for i := range rows {
		rows[i] = anyRow(r)
	}
	return rows
}

// anyLeading returns rows with something changed, which need not lead values of a model to such of other sizes, or any rows.
func anyLeading(r *rand.Rand, h [][]int, sizes []int) [][]int {
	switch r.Intn(4) {
	case 0:
		wrong := wrongRows(h, sizes)
		return wrong[r.Intn(len(wrong))]
	case 1:
		sort := r.Intn(len(h))
		row := slices.Clone(h[sort])
		row[r.Intn(len(row))] = r.Intn(sizes[sort])
		return withRow(h, sort, row)
	case 2:
		return anyRows(r)
	}
	return h
}

// changed returns arguments of which some need not fit, by chance.
func (a partArgs) changed(r *rand.Rand) partArgs {
	numbers := []int{-1, 0, 1, 2, 3, 4, 7, 8, 100, math.MaxInt, math.MinInt}
	wrong := wrongSets(a.A, a.Sets)
	a.H, a.Classes = anyLeading(r, a.H, a.B.Sizes), anyLeading(r, a.Classes, a.A.Sizes)
	switch r.Intn(6) {
	case 0:
		a.A = anyModel(r, a.S, a.A)
	case 1:
		a.B = anyModel(r, a.S, a.B)
	case 2:
		a.A, a.B = a.B, a.A
	case 3:
		a.S = anySig(r, a.S)
	}
	switch r.Intn(5) {
	case 0:
		a.Sets = wrong[r.Intn(len(wrong))]
	case 1:
		a.Sets = anyRow(r)
	case 2:
		a.Sort = numbers[r.Intn(len(numbers))]
	case 3:
		a.X, a.Y = numbers[r.Intn(len(numbers))], numbers[r.Intn(len(numbers))]
	}
	return a
}

// Whatever the arguments are, the results are those that the document tells, and nothing panics.
func TestPartsOfAnyArguments(t *testing.T) {
	r := rand.New(rand.NewSource(100))
	for _, c := range settings() {
		for _, x := range someLeadings(r, c.s, 4) {
			a := partArgsFor(r, x)
			checkAnyParts(t, a)
			for range 4 {
				checkAnyParts(t, a.changed(r))
			}
			// Rows that have nothing to do with each other.
			checkAnyParts(t, partArgs{
				S: anySig(r, c.s), A: anyModel(r, c.s, oneValue(c.s)), B: anyModel(r, c.s, oneValue(c.s)), H: anyRows(r),
				Sets: anyRow(r), Classes: anyRows(r), Sort: r.Intn(4), X: r.Intn(4), Y: r.Intn(4),
			})
		}
	}
}

// checkAnyParts compares what all functions of the chapter return with what the document tells.
func checkAnyParts(t *testing.T, a partArgs) {
	t.Helper()
	if impl.HomOk(a.S, a.A, a.B, a.H) != homByHand(a.S, a.A, a.B, a.H) {
		t.Fatal("HomOk", a)
	}
	checkHoms(t, a.S, a.A, a.B)
	checkMade(t, a.S, a.A, a.Sets)
	checkPart(t, a.S, a.A, a.Sets)
	checkSame(t, a.S, a.A, a.Sort, a.X, a.Y)
	checkQuotient(t, a.S, a.A, a.Classes)
	checkKernel(t, leading{a.S, a.A, a.B, a.H})
}

// results returns what the functions of the chapter return for some arguments.
func (a partArgs) results() []any {
	impl.HomOk(a.S, a.A, a.B, a.H)
	part, _ := impl.PartModel(a.S, a.A, a.Sets)
	quotient, h, _ := impl.QuotientOf(a.S, a.A, a.Classes)
	return []any{
		impl.HomsOf(a.S, a.A, a.B), impl.MadeOf(a.S, a.A, a.Sets), part, impl.SameMade(a.S, a.A, a.Sort, a.X, a.Y), quotient, h,
		impl.KernelOf(a.S, a.A, a.B, a.H), impl.ImageOf(a.S, a.A, a.B, a.H),
	}
}

// No argument is written to, and no result shares memory with an argument or with another result.
func TestPartsShareNoMemory(t *testing.T) {
	r := rand.New(rand.NewSource(101))
	for _, c := range settings() {
		for _, x := range someLeadings(r, c.s, 1) {
			// There may be many maps; those of a part of the values are enough to look at.
			if slices.Max(x.a.Sizes) == 3 && x.s.Sorts > 1 && len(x.s.Ops) == 0 {
				continue
			}
			a := partArgsFor(r, x)
			checkApart(t, a)
			checkApart(t, a.changed(r))
			// All values, each of a class of its own, are the model, in other memory.
			a.Sets, a.Classes, a.Y = fullSets(x.a), selfRows(x.a), a.X
			checkApart(t, a)
			a.B, a.H = a.A, selfRows(x.a)
			checkApart(t, a)
		}
	}
	for _, bad := range invalidSigs() {
		one := oneValue(bad)
		checkApart(t, partArgs{S: bad, A: one, B: one, H: zeroRows(one), Sets: make([]int, len(one.Sizes)), Classes: zeroRows(one)})
	}
}

// Arguments that share memory with each other lead to results that do not: rows, tables and sizes that are one, and sets that are the sizes.
func TestPartsOfSharedArguments(t *testing.T) {
	s := sigOf("2:00,11,01")
	row := []int{0, 1}
	table := []int{1, 0}
	m := impl.Model{Sizes: []int{2, 2}, Tables: [][]int{table, table, row}}
	rows := [][]int{row, row}
	sets := []int{3, 3}
	part, okPart := impl.PartModel(s, m, sets)
	quotient, h, okQuotient := impl.QuotientOf(s, m, rows)
	wantModel(t, part, okPart, m, true)
	wantModel(t, quotient, okQuotient, m, true)
	made, homs := impl.MadeOf(s, m, sets), impl.HomsOf(s, m, m)
	kernel, image, same := impl.KernelOf(s, m, m, rows), impl.ImageOf(s, m, m, rows), impl.SameMade(s, m, 1, 1, 1)
	wantRows(t, h, rows)
	wantRows(t, kernel, rows)
	wantRows(t, same, rows)
	wantSets(t, made, sets)
	wantSets(t, image, sets)
	if len(homs) != 2 || !impl.HomOk(s, m, m, rows) {
		t.Fatal(homs)
	}
	apart(t, []any{part, quotient, h, made, homs, kernel, image, same, row, table, sets, m.Sizes, m.Tables[:0], rows[:0]})
	for i := range row {
		row[i], table[i], sets[i] = spare, spare, spare
	}
	wantRows(t, h, [][]int{{0, 1}, {0, 1}})
	wantModel(t, part, okPart, quotient, okQuotient)
	// The sizes of a model of two values of a sort, told as a set of values, are the set of the second one.
	two := impl.Model{Sizes: []int{2}}
	over := sigOf("1:")
	only, ok := impl.PartModel(over, two, two.Sizes)
	wantModel(t, only, ok, impl.Model{Sizes: []int{1}}, true)
	made = impl.MadeOf(over, two, two.Sizes)
	wantSets(t, made, []int{2})
	apart(t, []any{only, made, two})
}
