package tests

import (
	"math/rand"
	"slices"
	"testing"

	"loop.example/theorymodules/impl"
)

// fork is a signature with maps to a first one and to a second one.
type fork struct {
	c, a, b impl.Sig
	f, g    impl.Map
}

// forkOf reads a fork that a test needs.
func forkOf(c, a, b string, f, g impl.Map) fork {
	return fork{sigOf(c), sigOf(a), sigOf(b), f, g}
}

// mapOf returns a map that a test needs.
func mapOf(sorts []int, ops ...int) impl.Map {
	return impl.Map{Sorts: sorts, Ops: ops}
}

// swapped returns a fork with its sides exchanged.
func (x fork) swapped() fork {
	return fork{x.c, x.b, x.a, x.g, x.f}
}

// okByHand reports whether both maps of a fork are maps.
func (x fork) okByHand() bool {
	return okByHand(x.c, x.a, x.f) && okByHand(x.c, x.b, x.g)
}

// classesByHand returns the classes of so many things of a first side, and of others behind them: from the first thing that is of none yet, all those to which one comes from it by things of the third signature.
func classesByHand(f, g []int, many, others int) [][]int {
	told := map[int]bool{}
	var classes [][]int
	for first := range many + others {
		if told[first] {
			continue
		}
		class := []int{first}
		told[first] = true
		for i := 0; i < len(class); i++ {
			for k := range f {
				for _, way := range [][2]int{{f[k], many + g[k]}, {many + g[k], f[k]}} {
					if way[0] == class[i] && !told[way[1]] {
						told[way[1]] = true
						class = append(class, way[1])
					}
				}
			}
		}
		classes = append(classes, class)
	}
	return classes
}

// numbersIn returns for so many things, from one on, the number of the class in which each stands.
func numbersIn(classes [][]int, from, many int) []int {
	var list []int
	for thing := from; thing < from+many; thing++ {
		list = append(list, slices.IndexFunc(classes, func(class []int) bool { return slices.Contains(class, thing) }))
	}
	return list
}

// overByHand is SumOver as the document tells it.
func (x fork) overByHand() (impl.Sig, impl.Map, impl.Map, bool) {
	if !x.okByHand() {
		return impl.Sig{}, impl.Map{}, impl.Map{}, false
	}
	many := len(x.a.Ops)
	sorts := classesByHand(x.f.Sorts, x.g.Sorts, x.a.Sorts, x.b.Sorts)
	ops := classesByHand(x.f.Ops, x.g.Ops, many, len(x.b.Ops))
	left := impl.Map{Sorts: numbersIn(sorts, 0, x.a.Sorts), Ops: numbersIn(ops, 0, many)}
	right := impl.Map{Sorts: numbersIn(sorts, x.a.Sorts, x.b.Sorts), Ops: numbersIn(ops, many, len(x.b.Ops))}
	sum := impl.Sig{Sorts: len(sorts)}
	for _, class := range ops {
		if class[0] < many {
			sum.Ops = append(sum.Ops, sortsByHand(left, x.a.Ops[class[0]]))
		} else {
			sum.Ops = append(sum.Ops, sortsByHand(right, x.b.Ops[class[0]-many]))
		}
	}
	if len(sum.Ops) > 6 || sum.Sorts > 3 {
		return impl.Sig{}, impl.Map{}, impl.Map{}, false
	}
	return sum, left, right, true
}

// onlyNumber returns the only number to which all those of a class are led, of which some are on one side and some on the other one; -1 if they are led to different ones.
func onlyNumber(class int, left, first, right, second []int) int {
	number := -1
	for i, other := range joined(left, right) {
		led := joined(first, second)[i]
		if other == class && number >= 0 && led != number {
			return -1
		}
		if other == class {
			number = led
		}
	}
	return number
}

// sumMapByHand is SumMap as the document tells it: for each sort and operation of the sum it asks where all those lead of which it is the class.
func (x fork) sumMapByHand(d impl.Sig, p, q impl.Map) (impl.Map, bool) {
	sum, left, right, ok := x.overByHand()
	if !ok || !okByHand(x.a, d, p) || !okByHand(x.b, d, q) {
		return impl.Map{}, false
	}
	u := impl.Map{}
	for class := range sum.Sorts {
		u.Sorts = append(u.Sorts, onlyNumber(class, left.Sorts, p.Sorts, right.Sorts, q.Sorts))
	}
	for class := range sum.Ops {
		u.Ops = append(u.Ops, onlyNumber(class, left.Ops, p.Ops, right.Ops, q.Ops))
	}
	if slices.Contains(u.Sorts, -1) || slices.Contains(u.Ops, -1) {
		return impl.Map{}, false
	}
	return u, true
}

// sumModelByHand is SumModel as the document tells it: the sizes and tables of all those of a class must be the same.
func (x fork) sumModelByHand(m, n impl.Model) (impl.Model, bool) {
	sum, left, right, ok := x.overByHand()
	if !ok || !modelByHand(x.a, m) || !modelByHand(x.b, n) {
		return impl.Model{}, false
	}
	whole := impl.Model{}
	for class := range sum.Sorts {
		whole.Sizes = append(whole.Sizes, onlyNumber(class, left.Sorts, m.Sizes, right.Sorts, n.Sizes))
	}
	for class := range sum.Ops {
		var table []int
		for i, other := range joined(left.Ops, right.Ops) {
			led := append(slices.Clone(m.Tables), n.Tables...)[i]
			if other == class && table != nil && !sameRow(table, led) {
				return impl.Model{}, false
			}
			if other == class {
				table = led
			}
		}
		whole.Tables = append(whole.Tables, table)
	}
	if slices.Contains(whole.Sizes, -1) {
		return impl.Model{}, false
	}
	return whole, true
}

// sumTheoryByHand is SumTheory as the document tells it: of all axioms, those of the first one ahead, it keeps those that are the first ones of their texts.
func (x fork) sumTheoryByHand(a, b impl.Theory) (impl.Theory, bool) {
	sum, left, right, ok := fork{x.c, a.Over, b.Over, x.f, x.g}.overByHand()
	if !ok || !theoryByHand(a) || !theoryByHand(b) {
		return impl.Theory{}, false
	}
	var all []impl.Eq
	for _, e := range a.Axioms {
		led, _ := mapEqByHand(road{a.Over, sum, left}, e)
		all = append(all, led)
	}
	for _, e := range b.Axioms {
		led, _ := mapEqByHand(road{b.Over, sum, right}, e)
		all = append(all, led)
	}
	theory := impl.Theory{Over: sum}
	told := map[string]bool{}
	for _, e := range all {
		if text := eqTextByHand(sum, e); !told[text] {
			told[text] = true
			theory.Axioms = append(theory.Axioms, e)
		}
	}
	if len(theory.Axioms) > 6 {
		return impl.Theory{}, false
	}
	return theory, true
}

// knownForks returns forks whose sums are valid: with sorts and operations that become one on one side, on both and by chains, with common parts and sides without operations, and with as many sorts and operations as are allowed.
func knownForks() []fork {
	return []fork{
		forkOf("1:0", "1:0,000", "2:0,01", mapOf([]int{0}, 0), mapOf([]int{0}, 0)),
		forkOf("1:", "1:", "1:", mapOf([]int{0}), mapOf([]int{0})),
		forkOf("1:", "1:00,0", "1:00,0", mapOf([]int{0}), mapOf([]int{0})),
		forkOf("1:", "1:000,0,00", "1:00,0,000", mapOf([]int{0}), mapOf([]int{0})),
		forkOf("1:", "2:01,1", "2:10,0", mapOf([]int{1}), mapOf([]int{1})),
		forkOf("1:000,0,00", "1:000,0,00", "1:000,0,00", mapOf([]int{0}, 0, 1, 2), mapOf([]int{0}, 0, 1, 2)),
		forkOf("1:00,0", "1:00,0", "1:000,0,00", mapOf([]int{0}, 0, 1), mapOf([]int{0}, 2, 1)),
		forkOf("1:0,0", "1:0", "1:0,0", mapOf([]int{0}, 0, 0), mapOf([]int{0}, 0, 1)),
		forkOf("1:00,00,00", "1:00,00", "1:00,00,00", mapOf([]int{0}, 0, 0, 1), mapOf([]int{0}, 2, 1, 1)),
		forkOf("2:", "1:", "2:01", mapOf([]int{0, 0}), mapOf([]int{0, 1})),
		forkOf("2:", "2:0,1", "1:00", mapOf([]int{0, 1}), mapOf([]int{0, 0})),
		forkOf("2:", "1:00", "1:00", mapOf([]int{0, 0}), mapOf([]int{0, 0})),
		forkOf("2:01", "2:01,10", "2:10,0", mapOf([]int{0, 1}, 0), mapOf([]int{1, 0}, 0)),
		forkOf("2:01", "1:00,0", "2:01,11", mapOf([]int{0, 0}, 0), mapOf([]int{0, 1}, 0)),
		forkOf("2:0,1", "1:0", "2:0,1", mapOf([]int{0, 0}, 0, 0), mapOf([]int{0, 1}, 0, 1)),
		forkOf("3:", "2:01", "2:10", mapOf([]int{0, 0, 1}), mapOf([]int{0, 1, 1})),
		forkOf("3:", "3:2,1", "3:0,1", mapOf([]int{2, 2, 0}), mapOf([]int{0, 2, 2})),
		forkOf("3:012", "3:012,0,1", "3:012,20,1", mapOf([]int{0, 1, 2}, 0), mapOf([]int{0, 1, 2}, 0)),
		forkOf("3:2", "3:2", "3:1", mapOf([]int{0, 1, 2}, 0), mapOf([]int{0, 2, 1}, 0)),
	}
}

// anyFork returns a fork by chance. Its sum need not be valid.
func anyFork(r *rand.Rand) fork {
	sorts := 1 + r.Intn(3)
	c := randomSig(r, rowsOver(sorts), sorts, r.Intn(5))
	x, y := anyRoad(r, c), anyRoad(r, c)
	return fork{c, x.b, y.b, x.m, y.m}
}

// goodForks returns the known forks, and others by chance, whose sums are valid.
func goodForks(seed int64, many int) []fork {
	list := knownForks()
	r := rand.New(rand.NewSource(seed))
	for len(list) < many {
		x := anyFork(r)
		if _, _, _, ok := x.overByHand(); ok {
			list = append(list, x)
		}
	}
	return list
}

// led returns where a map of the sum leads both sides: the maps that it is behind the maps to the sum.
func (x fork) led(d impl.Sig, u impl.Map) (impl.Map, impl.Map) {
	sum, left, right, _ := x.overByHand()
	p, okFirst := thenByHand(x.a, sum, d, left, u)
	q, okSecond := thenByHand(x.b, sum, d, right, u)
	if !okFirst || !okSecond {
		panic("no map")
	}
	return p, q
}

// backs returns the models of both sides that a model of the sum becomes.
func (x fork) backs(whole impl.Model) (impl.Model, impl.Model) {
	sum, left, right, _ := x.overByHand()
	return modelBackByHand(road{x.a, sum, left}, whole), modelBackByHand(road{x.b, sum, right}, whole)
}

// wantOver fails if a sum, its maps and their bool are not those that are wanted, or if there is something beside false.
func wantOver(t *testing.T, x fork, want impl.Sig, wantLeft, wantRight impl.Map, wantOk bool) {
	t.Helper()
	got, left, right, ok := impl.SumOver(x.c, x.a, x.b, x.f, x.g)
	if ok != wantOk || !sameSig(got, want) || !sameMap(left, wantLeft) || !sameMap(right, wantRight) {
		t.Fatal("got", got, left, right, ok, "wanted", want, wantLeft, wantRight, wantOk, "for", x)
	}
}

// checkOver compares a sum with what the document tells, and reports whether there is one.
func checkOver(t *testing.T, x fork) bool {
	t.Helper()
	want, left, right, ok := x.overByHand()
	wantOver(t, x, want, left, right, ok)
	return ok
}

// checkSumMap compares the map of a sum with what the document tells, and reports whether there is one.
func checkSumMap(t *testing.T, x fork, d impl.Sig, p, q impl.Map) bool {
	t.Helper()
	want, wantOk := x.sumMapByHand(d, p, q)
	got, ok := impl.SumMap(x.c, x.a, x.b, x.f, x.g, d, p, q)
	wantMap(t, got, ok, want, wantOk, x, d, p, q)
	return ok
}

// checkSumModel compares the model of a sum with what the document tells, and reports whether there is one.
func checkSumModel(t *testing.T, x fork, m, n impl.Model) bool {
	t.Helper()
	want, wantOk := x.sumModelByHand(m, n)
	got, ok := impl.SumModel(x.c, x.a, x.b, x.f, x.g, m, n)
	wantModel(t, got, ok, want, wantOk, x, m, n)
	return ok
}

func sameTheory(a, b impl.Theory) bool {
	return sameSig(a.Over, b.Over) && slices.EqualFunc(a.Axioms, b.Axioms, sameEq)
}

// wantTheory fails if the theory of a sum and its bool are not those that are wanted, or if there is something beside false.
func wantTheory(t *testing.T, x fork, a, b impl.Theory, want impl.Theory, wantOk bool) {
	t.Helper()
	got, ok := impl.SumTheory(x.c, a, b, x.f, x.g)
	if ok != wantOk || !sameTheory(got, want) {
		t.Fatal("got", got, ok, "wanted", want, wantOk, "for", x, a, b)
	}
}

// checkSumTheory compares the theory of a sum with what the document tells, and returns it.
func checkSumTheory(t *testing.T, x fork, a, b impl.Theory) (impl.Theory, bool) {
	t.Helper()
	want, wantOk := x.sumTheoryByHand(a, b)
	wantTheory(t, x, a, b, want, wantOk)
	return want, wantOk
}

// wrongLeads returns what is no map on a road, each made from a map by one change.
func wrongLeads(x road) []impl.Map {
	list := []impl.Map{{}, {Ops: x.m.Ops}, mapOf(x.m.Sorts[1:], x.m.Ops...), mapOf(joined(x.m.Sorts, []int{0}), x.m.Ops...), mapOf(x.m.Sorts, joined(x.m.Ops, []int{0})...)}
	change := func(row []int, past int, with func([]int)) {
		for at := range row {
			for _, wrong := range []int{-1, past, past + 1, 100, 1 << 62, -1 << 63} {
				other := slices.Clone(row)
				other[at] = wrong
				with(other)
			}
		}
	}
	change(x.m.Sorts, x.b.Sorts, func(row []int) { list = append(list, mapOf(row, x.m.Ops...)) })
	change(x.m.Ops, len(x.b.Ops), func(row []int) { list = append(list, mapOf(x.m.Sorts, row...)) })
	if len(x.m.Ops) > 0 {
		list = append(list, mapOf(x.m.Sorts), mapOf(x.m.Sorts, x.m.Ops[1:]...))
	}
	// An operation led to each one that does not take and leave what it must.
	for op := range x.m.Ops {
		for to := range x.b.Ops {
			ops := slices.Clone(x.m.Ops)
			ops[op] = to
			if m := mapOf(x.m.Sorts, ops...); !okByHand(x.a, x.b, m) {
				list = append(list, m)
			}
		}
	}
	return list
}

// badForks returns forks of which one map is none, or one signature is not valid.
func badForks(x fork) []fork {
	var list []fork
	for _, m := range wrongLeads(road{x.c, x.a, x.f}) {
		list = append(list, fork{x.c, x.a, x.b, m, x.g})
	}
	for _, m := range wrongLeads(road{x.c, x.b, x.g}) {
		list = append(list, fork{x.c, x.a, x.b, x.f, m})
	}
	for _, bad := range invalidSigs() {
		zero := zeroMap(bad)
		list = append(list,
			fork{bad, x.a, x.b, x.f, x.g}, fork{bad, x.a, x.b, zero, zero}, fork{bad, bad, bad, zero, zero}, fork{bad, x.a, x.b, impl.Map{}, impl.Map{}},
			fork{x.c, bad, x.b, x.f, x.g}, fork{x.c, bad, x.b, zeroMap(x.c), x.g}, fork{x.c, bad, bad, zeroMap(x.c), zeroMap(x.c)},
			fork{x.c, x.a, bad, x.f, x.g}, fork{x.c, x.a, bad, x.f, zeroMap(x.c)}, fork{sigOf("1:"), x.a, bad, mapOf([]int{0}), mapOf([]int{0})}, fork{sigOf("1:"), bad, x.b, mapOf([]int{0}), mapOf([]int{0})})
	}
	return list
}

// manyForks returns forks by chance, whose sums need not be valid.
func manyForks(seed int64, many int) []fork {
	r := rand.New(rand.NewSource(seed))
	var list []fork
	for range many {
		list = append(list, anyFork(r))
	}
	return list
}
