package tests

import (
	"math/rand"
	"slices"
	"testing"

	"loop.example/theorymodules/impl"
)

// road is a map of a signature to another one.
type road struct {
	a, b impl.Sig
	m    impl.Map
}

// roadOf reads a map that a test needs.
func roadOf(a, b string, sorts, ops []int) road {
	return road{sigOf(a), sigOf(b), impl.Map{Sorts: sorts, Ops: ops}}
}

// knownRoads returns maps that lead to more, to as many and to fewer sorts and operations, some two of them to one, and with signatures without operations on either side.
func knownRoads() []road {
	return []road{
		roadOf("1:000,0,00", "1:000,0,00", []int{0}, []int{0, 1, 2}),
		roadOf("1:000,0,00", "1:00,0,000,000", []int{0}, []int{3, 1, 0}),
		roadOf("1:000,000,0,0", "1:0,000", []int{0}, []int{1, 1, 0, 0}),
		roadOf("1:000,0,00", "2:111,00,1,11,0,000", []int{1}, []int{0, 2, 3}),
		roadOf("2:001,1", "1:00,0,000", []int{0, 0}, []int{2, 1}),
		roadOf("2:010,101,01,10,0,1", "1:00,000,0", []int{0, 0}, []int{1, 1, 0, 0, 2, 2}),
		roadOf("2:010,101,01,10,0,1", "2:0,1,10,01,101,010", []int{0, 1}, []int{5, 4, 3, 2, 0, 1}),
		roadOf("2:010,101,01,10,0,1", "2:0,1,10,01,101,010", []int{1, 0}, []int{4, 5, 2, 3, 1, 0}),
		roadOf("3:012,120,20,0,1,2", "2:010,100,00,1,0", []int{0, 1, 0}, []int{0, 1, 2, 4, 3, 4}),
		roadOf("3:012,120,20,0,1,2", "1:000,0,00", []int{0, 0, 0}, []int{0, 0, 2, 1, 1, 1}),
		roadOf("3:012,120,20,0,1,2", "3:201,012,12,2,0,1", []int{2, 0, 1}, []int{0, 1, 2, 3, 4, 5}),
		roadOf("1:", "1:", []int{0}, nil),
		roadOf("1:", "3:012,20", []int{2}, nil),
		roadOf("2:", "1:0", []int{0, 0}, nil),
		roadOf("2:", "3:", []int{2, 1}, nil),
		roadOf("3:", "1:", []int{0, 0, 0}, nil),
	}
}

// roads returns the known maps, and some by chance.
func roads() []road {
	list := knownRoads()
	r := rand.New(rand.NewSource(41))
	for _, c := range settings() {
		list = append(list, anyRoad(r, c.s), anyRoad(r, c.s))
	}
	return list
}

// anyRoad returns a map of a signature to one that is made for it, by chance.
func anyRoad(r *rand.Rand, a impl.Sig) road {
	x := road{a: a, b: impl.Sig{Sorts: 1 + r.Intn(3)}}
	for range a.Sorts {
		x.m.Sorts = append(x.m.Sorts, r.Intn(x.b.Sorts))
	}
	var rows [][]int
	var ops []int
	for _, row := range a.Ops {
		led := sortsByHand(x.m, row)
		at := slices.IndexFunc(rows, func(other []int) bool { return sameRow(other, led) })
		if at < 0 || r.Intn(2) == 0 {
			at = len(rows)
			rows = append(rows, led)
		}
		ops = append(ops, at)
	}
	over := rowsOver(x.b.Sorts)
	for len(rows) < 6 && r.Intn(3) > 0 {
		rows = append(rows, over[r.Intn(len(over))])
	}
	places := r.Perm(len(rows))
	x.b.Ops = make([][]int, len(rows))
	for i, row := range rows {
		x.b.Ops[places[i]] = row
	}
	for _, op := range ops {
		x.m.Ops = append(x.m.Ops, places[op])
	}
	return x
}

// sortsByHand returns the sorts to which some are led.
func sortsByHand(m impl.Map, row []int) []int {
	var led []int
	for _, sort := range row {
		led = append(led, m.Sorts[sort])
	}
	return led
}

// okByHand is MapOk as the document tells it.
func okByHand(a, b impl.Sig, m impl.Map) bool {
	if !impl.SigValid(a) || !impl.SigValid(b) || len(m.Sorts) != a.Sorts || len(m.Ops) != len(a.Ops) {
		return false
	}
	for _, to := range m.Sorts {
		if to < 0 || to >= b.Sorts {
			return false
		}
	}
	for op, to := range m.Ops {
		if to < 0 || to >= len(b.Ops) || impl.OpLeaves(b, to) != m.Sorts[impl.OpLeaves(a, op)] {
			return false
		}
		takes := impl.OpTakes(b, to)
		for i, sort := range impl.OpTakes(a, op) {
			if i >= len(takes) || takes[i] != m.Sorts[sort] {
				return false
			}
		}
		if len(takes) != len(impl.OpTakes(a, op)) {
			return false
		}
	}
	return true
}

// selfByHand is MapSelf as the document tells it, for a valid signature.
func selfByHand(s impl.Sig) impl.Map {
	return impl.Map{Sorts: []int{0, 1, 2}[:s.Sorts], Ops: []int{0, 1, 2, 3, 4, 5}[:len(s.Ops)]}
}

// thenByHand is MapThen as the document tells it.
func thenByHand(a, b, c impl.Sig, m, n impl.Map) (impl.Map, bool) {
	if !okByHand(a, b, m) || !okByHand(b, c, n) {
		return impl.Map{}, false
	}
	x := impl.Map{Sorts: sortsByHand(n, m.Sorts)}
	for _, op := range m.Ops {
		x.Ops = append(x.Ops, n.Ops[op])
	}
	return x, true
}

// along returns a term along a map.
func (t tree) along(m impl.Map) tree {
	led := tree{number: t.number, sort: m.Sorts[t.sort]}
	if t.number < 100 {
		led.number = m.Ops[t.number]
	}
	for _, taken := range t.takes {
		led.takes = append(led.takes, taken.along(m))
	}
	return led
}

// termByHand is MapTerm as the document tells it.
func termByHand(x road, vars []int, row []int) ([]int, []int, bool) {
	t, ok := treeByHand(x.a, vars, row)
	if !ok || !okByHand(x.a, x.b, x.m) {
		return nil, nil, false
	}
	return sortsByHand(x.m, vars), t.along(x.m).row(), true
}

// mapEqByHand is MapEq as the document tells it.
func mapEqByHand(x road, e impl.Eq) (impl.Eq, bool) {
	if !eqByHand(x.a, e) || !okByHand(x.a, x.b, x.m) {
		return impl.Eq{}, false
	}
	vars, left, _ := termByHand(x, e.Vars, e.Left)
	_, right, _ := termByHand(x, e.Vars, e.Right)
	return impl.Eq{Vars: vars, Left: left, Right: right}, true
}

// mapAxiomsByHand is MapAxioms as the document tells it.
func mapAxiomsByHand(a, b impl.Theory, m impl.Map) ([]int, bool) {
	if !theoryByHand(a) || !theoryByHand(b) || !okByHand(a.Over, b.Over, m) {
		return nil, false
	}
	var list []int
	for _, e := range a.Axioms {
		led, _ := mapEqByHand(road{a.Over, b.Over, m}, e)
		text, first := eqTextByHand(b.Over, led), -1
		for i := len(b.Axioms) - 1; i >= 0; i-- {
			if eqTextByHand(b.Over, b.Axioms[i]) == text {
				first = i
			}
		}
		if first < 0 {
			return nil, false
		}
		list = append(list, first)
	}
	return list, true
}

// mapProofByHand is MapProof as the document tells it.
func mapProofByHand(a, b impl.Theory, m impl.Map, e impl.Eq, steps []impl.Step) ([]impl.Step, bool) {
	axioms, okAxioms := mapAxiomsByHand(a, b, m)
	_, ok := proofByHand(a, e, steps)
	if !ok || !okAxioms {
		return nil, false
	}
	var list []impl.Step
	for _, p := range steps {
		led := impl.Step{Axiom: axioms[p.Axiom], Back: p.Back, At: p.At}
		for _, row := range p.Terms {
			_, term, _ := termByHand(road{a.Over, b.Over, m}, e.Vars, row)
			led.Terms = append(led.Terms, term)
		}
		list = append(list, led)
	}
	return list, true
}

// waysToLead returns how many ways there are to choose a sort for each sort and an operation for each operation.
func waysToLead(a, b impl.Sig) int {
	ways := 1
	for range a.Sorts {
		ways *= b.Sorts
	}
	for range a.Ops {
		ways *= len(b.Ops)
	}
	return ways
}

// mapsByHand is MapsOf as the document tells it: for each way to lead the sorts, all ways to choose operations that fit, however many there are to choose.
func mapsByHand(a, b impl.Sig) []impl.Map {
	ways := 1
	for range a.Sorts {
		ways *= b.Sorts
	}
	var list []impl.Map
	for way := range ways {
		m := impl.Map{}
		for i, part := 0, ways; i < a.Sorts; i++ {
			part /= b.Sorts
			m.Sorts = append(m.Sorts, way/part%b.Sorts)
		}
		list = append(list, withOps(a, b, m)...)
	}
	return list
}

// withOps returns all maps that begin as one whose sorts are chosen.
func withOps(a, b impl.Sig, m impl.Map) []impl.Map {
	if len(m.Ops) == len(a.Ops) {
		return []impl.Map{m}
	}
	var list []impl.Map
	for op, row := range b.Ops {
		if sameRow(row, sortsByHand(m, a.Ops[len(m.Ops)])) {
			list = append(list, withOps(a, b, impl.Map{Sorts: m.Sorts, Ops: append(slices.Clone(m.Ops), op)})...)
		}
	}
	return list
}

func sameMap(a, b impl.Map) bool {
	return sameRow(a.Sorts, b.Sorts) && sameRow(a.Ops, b.Ops)
}

// wantMap fails if a map and its bool are not those that are wanted, or if there is something beside false.
func wantMap(t *testing.T, got impl.Map, ok bool, want impl.Map, wantOk bool, about ...any) {
	t.Helper()
	if ok != wantOk || !sameMap(got, want) {
		t.Fatal("got", got, ok, "wanted", want, wantOk, "for", about)
	}
}

// ledTheory returns a theory over the second signature of a map that has what comes of each axiom of one over the first, in another order, each once, and others between them as far as there is room, by chance.
func ledTheory(r *rand.Rand, x road, t impl.Theory) impl.Theory {
	led := anyTheory(r, setting{s: x.b}, r.Intn(3))
	for _, e := range t.Axioms {
		other, ok := mapEqByHand(x, e)
		if !ok {
			panic("no map")
		}
		if !slices.ContainsFunc(led.Axioms, func(old impl.Eq) bool { return sameEq(old, other) }) {
			led.Axioms = append(led.Axioms, other)
		}
	}
	if len(led.Axioms) > 6 {
		led.Axioms = led.Axioms[len(led.Axioms)-6:]
	}
	r.Shuffle(len(led.Axioms), func(i, j int) { led.Axioms[i], led.Axioms[j] = led.Axioms[j], led.Axioms[i] })
	return led
}

// anyMap returns the map of a road, or one with something changed, which need not be a map.
func anyMap(r *rand.Rand, x road) impl.Map {
	m := impl.Map{Sorts: slices.Clone(x.m.Sorts), Ops: slices.Clone(x.m.Ops)}
	row := &m.Sorts
	if r.Intn(2) == 0 {
		row = &m.Ops
	}
	numbers := []int{-1, 0, 1, 2, 3, 5, 6, 100, 1 << 62, -1 << 63}
	switch r.Intn(10) {
	case 0:
		*row = append(*row, numbers[r.Intn(len(numbers))])
	case 1:
		*row = (*row)[:len(*row)/2]
	case 2, 3:
		if len(*row) > 0 {
			(*row)[r.Intn(len(*row))] = numbers[r.Intn(len(numbers))]
		}
	}
	return m
}

// anySig returns a signature, or one that is not valid, by chance.
func anySig(r *rand.Rand, s impl.Sig) impl.Sig {
	if r.Intn(12) == 0 {
		bad := invalidSigs()
		return bad[r.Intn(len(bad))]
	}
	if r.Intn(12) == 0 {
		rows := rowsOver(s.Sorts)
		return randomSig(r, rows, s.Sorts, len(s.Ops))
	}
	return s
}
