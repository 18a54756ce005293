package tests

import (
	"math/rand"
	"slices"
	"testing"

	"loop.example/theorymodules/impl"
)

// checkMade compares what is made of sets with what the document tells, and returns it.
func checkMade(t *testing.T, s impl.Sig, m impl.Model, sets []int) []int {
	t.Helper()
	made := impl.MadeOf(s, m, sets)
	wantSets(t, made, madeByHand(s, m, sets), s, m, sets)
	return made
}

func TestP18MadeTwiceIsMadeOnce(t *testing.T) {
	r := rand.New(rand.NewSource(85))
	grown := map[bool]int{}
	for _, c := range settings() {
		for _, m := range manyModels(r, c.s, 8) {
			full := fullSets(m)
			wantSets(t, impl.MadeOf(c.s, m, full), full, "all values", c, m)
			list := allSets(m)
			for range 12 {
				sets := list[r.Intn(len(list))]
				made := checkMade(t, c.s, m, sets)
				for sort, set := range sets {
					if made[sort]&set != set || made[sort]&full[sort] != made[sort] {
						t.Fatal("not in it", c, m, sets, made)
					}
				}
				wantSets(t, impl.MadeOf(c.s, m, made), made, "twice", c, m, sets)
				grown[!sameRow(made, sets)]++
			}
		}
	}
	if grown[true] < 500 || grown[false] < 500 {
		t.Fatal(grown)
	}
}

// Of more no less is made; and what is made of two ways to choose sets together is made of what is made of each.
func TestMadeOfMore(t *testing.T) {
	r := rand.New(rand.NewSource(86))
	for _, c := range settings() {
		for _, m := range manyModels(r, c.s, 6) {
			list := allSets(m)
			for range 8 {
				a, b := list[r.Intn(len(list))], list[r.Intn(len(list))]
				madeA, madeB := impl.MadeOf(c.s, m, a), impl.MadeOf(c.s, m, b)
				var both, made []int
				for sort := range a {
					both, made = append(both, a[sort]|b[sort]), append(made, madeA[sort]|madeB[sort])
				}
				whole := impl.MadeOf(c.s, m, both)
				wantSets(t, impl.MadeOf(c.s, m, made), whole, c, m, a, b)
				for sort := range a {
					if whole[sort]&madeA[sort] != madeA[sort] {
						t.Fatal("less", c, m, a, b)
					}
				}
			}
		}
	}
}

// madeCase is what is made of sets.
type madeCase struct {
	s    string
	m    impl.Model
	sets []int
	want []int
}

func TestMade(t *testing.T) {
	three := knownModels()[1]
	chain := modelOf([]int{3, 3}, []int{1, 1, 2}, []int{0, 1, 2}, []int{2, 2, 2})
	for _, c := range []madeCase{
		{"1:000,0,00", three, []int{2}, []int{7}},
		{"1:000,0,00", three, []int{1}, []int{1}},
		{"1:000,0,00", three, []int{4}, []int{7}},
		{"1:000,0,00", three, []int{6}, []int{7}},
		{"1:000,0,00", three, []int{7}, []int{7}},
		// Of no values constants are made, and what operations leave of them, and without constants nothing.
		{"1:000,0,00", three, []int{0}, []int{1}},
		{"1:000,0,00", modelOf([]int{3}, []int{0, 0, 0, 0, 1, 1, 0, 1, 2}, []int{2}, []int{2, 1, 0}), []int{0}, []int{5}},
		{"1:0,0", modelOf([]int{3}, []int{2}, []int{1}), []int{0}, []int{6}},
		{"2:0,1", modelOf([]int{3, 2}, []int{2}, []int{1}), []int{0, 0}, []int{4, 2}},
		{"2:0", modelOf([]int{3, 2}, []int{2}), []int{0, 0}, []int{4, 0}},
		{"2:1,11", modelOf([]int{3, 3}, []int{2}, []int{2, 2, 1}), []int{0, 0}, []int{0, 6}},
		{"2:0,01", modelOf([]int{3, 2}, []int{2}, []int{0, 0, 1}), []int{0, 0}, []int{4, 2}},
		{"1:000,00", modelOf([]int{2}, []int{1, 1, 1, 1}, []int{1, 1}), []int{0}, []int{0}},
		{"1:", modelOf([]int{3}), []int{0}, []int{0}},
		{"3:", modelOf([]int{1, 2, 3}), []int{0, 0, 0}, []int{0, 0, 0}},
		{"3:", modelOf([]int{1, 2, 3}), []int{1, 2, 5}, []int{1, 2, 5}},
		// Operations that leave another sort, also back and forth, and ahead of those that they need.
		{"2:00,01,10", chain, []int{1, 0}, []int{7, 7}},
		{"2:00,01,10", chain, []int{4, 0}, []int{4, 4}},
		{"2:00,01,10", chain, []int{0, 1}, []int{4, 5}},
		{"2:00,01,10", chain, []int{0, 2}, []int{4, 6}},
		{"2:01", modelOf([]int{2, 3}, []int{2, 1}), []int{1, 1}, []int{1, 5}},
		{"2:01", modelOf([]int{2, 3}, []int{2, 1}), []int{2, 1}, []int{2, 3}},
		{"2:01", modelOf([]int{2, 3}, []int{2, 1}), []int{0, 1}, []int{0, 1}},
		{"2:01", modelOf([]int{2, 3}, []int{2, 1}), []int{3, 0}, []int{3, 6}},
		{"3:01,12,20", modelOf([]int{3, 3, 3}, []int{1, 2, 0}, []int{1, 2, 0}, []int{1, 2, 0}), []int{1, 0, 0}, []int{1, 2, 4}},
		{"3:01,12,20", modelOf([]int{3, 3, 3}, []int{1, 2, 0}, []int{0, 1, 2}, []int{0, 1, 2}), []int{0, 1, 0}, []int{7, 7, 7}},
		// Each operation needs what a later one leaves.
		{"3:22,12,11,01,00", modelOf([]int{3, 3, 3}, []int{0, 0, 2}, []int{1, 2, 2}, []int{0, 0, 2}, []int{1, 2, 2}, []int{0, 0, 1}), []int{4, 4, 4}, []int{7, 7, 7}},
		{"3:22,12,11,01,00", modelOf([]int{3, 3, 3}, []int{0, 0, 2}, []int{1, 2, 2}, []int{0, 0, 2}, []int{1, 2, 2}, []int{0, 1, 1}), []int{4, 4, 4}, []int{6, 4, 4}},
		// Of two values together, each at its place, one of them from a sort of which there are none.
		{"1:000", modelOf([]int{3}, []int{0, 2, 0, 0, 1, 0, 0, 0, 2}), []int{3}, []int{7}},
		{"1:000", modelOf([]int{3}, []int{0, 0, 0, 2, 1, 0, 0, 0, 2}), []int{3}, []int{7}},
		{"1:000", modelOf([]int{3}, []int{0, 0, 1, 0, 1, 1, 1, 1, 2}), []int{3}, []int{3}},
		{"1:000", modelOf([]int{3}, []int{0, 0, 1, 0, 1, 1, 1, 1, 2}), []int{5}, []int{7}},
		{"2:010", modelOf([]int{2, 3}, []int{1, 1, 1, 1, 1, 1}), []int{1, 0}, []int{1, 0}},
		{"2:010", modelOf([]int{2, 3}, []int{1, 1, 1, 1, 1, 1}), []int{0, 7}, []int{0, 7}},
		{"2:010", modelOf([]int{2, 3}, []int{0, 0, 1, 1, 1, 1}), []int{1, 3}, []int{1, 3}},
		{"2:010", modelOf([]int{2, 3}, []int{0, 0, 1, 1, 1, 1}), []int{1, 4}, []int{3, 4}},
		{"2:100", modelOf([]int{2, 3}, []int{0, 1, 0, 1, 1, 1}), []int{1, 3}, []int{1, 3}},
		{"2:100", modelOf([]int{2, 3}, []int{0, 1, 0, 1, 1, 1}), []int{1, 6}, []int{3, 6}},
		{"3:012", modelOf([]int{2, 2, 3}, []int{0, 1, 2, 1}), []int{1, 3, 0}, []int{1, 3, 3}},
		{"3:012", modelOf([]int{2, 2, 3}, []int{0, 1, 2, 1}), []int{2, 1, 1}, []int{2, 1, 5}},
		// A value of each sort that has one.
		{"1:0,00", oneValue(sigOf("1:0,00")), []int{0}, []int{1}},
		{"2:01", oneValue(sigOf("2:01")), []int{1, 0}, []int{1, 1}},
		// No sets, or none of this model.
		{"1:000,0,00", three, nil, nil},
		{"1:000,0,00", three, []int{}, nil},
		{"1:000,0,00", three, []int{1, 1}, nil},
		{"1:000,0,00", three, []int{1, 0}, nil},
		{"1:000,0,00", three, []int{8}, nil},
		{"1:000,0,00", three, []int{9}, nil},
		{"1:000,0,00", three, []int{-1}, nil},
		{"1:000,0,00", knownModels()[0], []int{4}, nil},
		{"1:000,0,00", knownModels()[0], []int{3}, []int{3}},
		{"2:01", modelOf([]int{2, 3}, []int{2, 1}), []int{4, 0}, nil},
		{"2:01", modelOf([]int{2, 3}, []int{2, 1}), []int{0, 8}, nil},
		{"2:01", modelOf([]int{2, 3}, []int{2, 1}), []int{1}, nil},
		{"2:", modelOf([]int{1, 1}), []int{2, 0}, nil},
	} {
		wantSets(t, impl.MadeOf(sigOf(c.s), c.m, c.sets), c.want, c)
		checkMade(t, sigOf(c.s), c.m, c.sets)
	}
}

// Of sets that are none, of what is no model, and over what is no signature nothing is made, and there is no part.
func TestNothingIsMade(t *testing.T) {
	none := func(s impl.Sig, m impl.Model, sets []int) {
		t.Helper()
		wantSets(t, impl.MadeOf(s, m, sets), nil, s, m, sets)
		part, ok := impl.PartModel(s, m, sets)
		wantModel(t, part, ok, impl.Model{}, false, s, m, sets)
	}
	for _, s := range []impl.Sig{sigOf("1:"), sigOf("1:000,0,00"), sigOf("2:010,01,1,0"), sigOf("3:012,2"), sigOf("3:")} {
		for _, m := range []impl.Model{oneValue(s), zeroModel(s, []int{2, 3, 1}[:s.Sorts])} {
			full := fullSets(m)
			for _, sets := range [][]int{full, make([]int, s.Sorts), []int{1, 1, 1}[:s.Sorts]} {
				for _, wrong := range wrongSets(m, sets) {
					none(s, m, wrong)
				}
				for _, bad := range badModels(s, m) {
					none(s, bad, sets)
				}
			}
			none(s, oneValue(sigOf("2:0,1,00,11,01")), full)
		}
	}
	for _, bad := range invalidSigs() {
		one := oneValue(bad)
		none(bad, one, make([]int, len(one.Sizes)))
		none(bad, one, slices.Repeat([]int{1}, len(one.Sizes)))
		none(bad, impl.Model{}, nil)
		none(bad, oneValue(sigOf("1:")), []int{1})
	}
}

// checkPart compares the model of sets with what the document tells, and returns it.
func checkPart(t *testing.T, s impl.Sig, m impl.Model, sets []int) (impl.Model, bool) {
	t.Helper()
	want, wantOk := partModelByHand(s, m, sets)
	part, ok := impl.PartModel(s, m, sets)
	wantModel(t, part, ok, want, wantOk, s, m, sets)
	return part, ok
}

func TestP19PartsHoldWhatTheModelHolds(t *testing.T) {
	r := rand.New(rand.NewSource(87))
	seen := map[[2]bool]int{}
	for _, c := range settings() {
		for _, m := range manyModels(r, c.s, 14) {
			full := fullSets(m)
			part, ok := impl.PartModel(c.s, m, full)
			wantModel(t, part, ok, m, true, "all values", c, m)
			list := allSets(m)
			for range 5 {
				sets := impl.MadeOf(c.s, m, list[r.Intn(len(list))])
				part, ok := checkPart(t, c.s, m, sets)
				if ok != !slices.Contains(sets, 0) || ok && !impl.ModelOk(c.s, part) {
					t.Fatal("no part", c, m, sets, part, ok)
				}
				if !ok || sameRow(sets, full) {
					continue
				}
				checkKept(t, r, c, m, part, seen)
			}
		}
	}
	wantSeen(t, seen, 3, 100)
}

// Just those sets have a model that operations do not leave, with at least one value of each sort; it is led to the model as its values are.
func TestAllSetsAreTried(t *testing.T) {
	r := rand.New(rand.NewSource(88))
	seen := map[bool]int{}
	for _, c := range settings() {
		for _, m := range manyModels(r, c.s, 2) {
			for _, sets := range allSets(m) {
				part, ok := checkPart(t, c.s, m, sets)
				stays := sameRow(impl.MadeOf(c.s, m, sets), sets)
				if ok != (stays && !slices.Contains(sets, 0)) {
					t.Fatal(c, m, sets, ok, stays)
				}
				seen[ok]++
				if !ok {
					continue
				}
				var kept [][]int
				for _, set := range sets {
					kept = append(kept, valuesOf(set))
				}
				if !impl.HomOk(c.s, part, m, kept) {
					t.Fatal("not led", c, m, sets, part)
				}
			}
		}
	}
	if seen[true] < 200 || seen[false] < 200 {
		t.Fatal(seen)
	}
}

func TestParts(t *testing.T) {
	lesser := knownModels()[3]
	for _, c := range []struct {
		s    string
		m    impl.Model
		sets []int
		want impl.Model
		ok   bool
	}{
		{"1:000,0,00", knownModels()[1], []int{1}, oneValue(sigOf("1:000,0,00")), true},
		{"1:000,0,00", knownModels()[1], []int{3}, impl.Model{}, false},
		// The values keep their order: 0 and 2 become 0 and 1.
		{"1:000,0,00", lesser, []int{5}, modelOf([]int{2}, []int{0, 0, 0, 1}, []int{1}, []int{1, 0}), true},
		{"1:000,0,00", lesser, []int{7}, lesser, true},
		{"1:000,0,00", lesser, []int{4}, impl.Model{}, false},
		{"1:000,0,00", lesser, []int{6}, impl.Model{}, false},
		{"1:000,00", modelOf([]int{3}, []int{0, 0, 0, 0, 1, 1, 0, 1, 2}, []int{0, 2, 1}), []int{6}, modelOf([]int{2}, []int{0, 0, 0, 1}, []int{1, 0}), true},
		{"1:000,00", modelOf([]int{3}, []int{0, 0, 0, 0, 1, 1, 0, 1, 2}, []int{0, 2, 1}), []int{1}, modelOf([]int{1}, []int{0}, []int{0}), true},
		{"1:000,00", modelOf([]int{3}, []int{0, 0, 0, 0, 1, 1, 0, 1, 2}, []int{0, 2, 1}), []int{2}, impl.Model{}, false},
		{"1:000", modelOf([]int{3}, []int{0, 1, 2, 0, 1, 2, 0, 1, 2}), []int{6}, modelOf([]int{2}, []int{0, 1, 0, 1}), true},
		{"1:000", modelOf([]int{3}, []int{0, 0, 0, 1, 1, 1, 2, 2, 2}), []int{6}, modelOf([]int{2}, []int{0, 0, 1, 1}), true},
		{"1:00", modelOf([]int{3}, []int{2, 0, 0}), []int{5}, modelOf([]int{2}, []int{1, 0}), true},
		{"1:00", modelOf([]int{3}, []int{2, 0, 0}), []int{3}, impl.Model{}, false},
		// Constants.
		{"1:0,0", modelOf([]int{3}, []int{2}, []int{1}), []int{6}, modelOf([]int{2}, []int{1}, []int{0}), true},
		{"1:0,0", modelOf([]int{3}, []int{2}, []int{1}), []int{4}, impl.Model{}, false},
		{"1:0,0", modelOf([]int{3}, []int{2}, []int{1}), []int{3}, impl.Model{}, false},
		{"2:0,1", modelOf([]int{3, 2}, []int{2}, []int{1}), []int{4, 2}, modelOf([]int{1, 1}, []int{0}, []int{0}), true},
		{"2:0,1", modelOf([]int{3, 2}, []int{2}, []int{1}), []int{5, 3}, modelOf([]int{2, 2}, []int{1}, []int{1}), true},
		{"2:0,1", modelOf([]int{3, 2}, []int{2}, []int{1}), []int{4, 1}, impl.Model{}, false},
		// Operations of sorts of which other values are kept.
		{"2:01", modelOf([]int{3, 3}, []int{2, 0, 1}), []int{5, 6}, modelOf([]int{2, 2}, []int{1, 0}), true},
		{"2:01", modelOf([]int{3, 3}, []int{2, 0, 1}), []int{5, 2}, impl.Model{}, false},
		{"2:01", modelOf([]int{3, 3}, []int{2, 0, 1}), []int{4, 7}, modelOf([]int{1, 3}, []int{1}), true},
		{"2:010", modelOf([]int{2, 3}, []int{1, 0, 1, 1, 0, 0}), []int{2, 1}, modelOf([]int{1, 1}, []int{0}), true},
		{"2:010", modelOf([]int{2, 3}, []int{1, 0, 1, 1, 0, 0}), []int{2, 3}, impl.Model{}, false},
		{"2:010", modelOf([]int{2, 3}, []int{1, 0, 1, 1, 0, 0}), []int{3, 6}, modelOf([]int{2, 2}, []int{0, 1, 0, 0}), true},
		{"2:101", modelOf([]int{2, 3}, []int{0, 1, 0, 2, 2, 2}), []int{3, 5}, impl.Model{}, false},
		{"2:101", modelOf([]int{2, 3}, []int{0, 2, 0, 2, 2, 0}), []int{3, 5}, modelOf([]int{2, 2}, []int{0, 1, 1, 0}), true},
		{"2:101", modelOf([]int{2, 3}, []int{0, 2, 0, 2, 2, 0}), []int{1, 5}, modelOf([]int{1, 2}, []int{0, 1}), true},
		{"3:012", modelOf([]int{2, 3, 3}, []int{0, 1, 2, 1, 2, 0}), []int{1, 6, 6}, modelOf([]int{1, 2, 2}, []int{0, 1}), true},
		// No values of one sort, of the last one, and of all.
		{"1:00", modelOf([]int{3}, []int{2, 0, 0}), []int{0}, impl.Model{}, false},
		{"1:", modelOf([]int{3}), []int{0}, impl.Model{}, false},
		{"1:", modelOf([]int{3}), []int{6}, modelOf([]int{2}), true},
		{"2:", modelOf([]int{3, 2}), []int{0, 2}, impl.Model{}, false},
		{"2:", modelOf([]int{3, 2}), []int{4, 0}, impl.Model{}, false},
		{"2:", modelOf([]int{3, 2}), []int{4, 2}, modelOf([]int{1, 1}), true},
		{"3:012", modelOf([]int{2, 3, 3}, []int{0, 1, 2, 1, 2, 0}), []int{0, 7, 7}, impl.Model{}, false},
		{"3:012", modelOf([]int{2, 3, 3}, []int{0, 1, 2, 1, 2, 0}), []int{3, 0, 0}, impl.Model{}, false},
		{"3:012", modelOf([]int{2, 3, 3}, []int{0, 1, 2, 1, 2, 0}), []int{0, 0, 0}, impl.Model{}, false},
		{"2:0", modelOf([]int{1, 1}, []int{0}), []int{1, 0}, impl.Model{}, false},
	} {
		part, ok := impl.PartModel(sigOf(c.s), c.m, c.sets)
		wantModel(t, part, ok, c.want, c.ok, c)
		checkPart(t, sigOf(c.s), c.m, c.sets)
	}
}

// A part of a part is a part of the model.
func TestPartsOfParts(t *testing.T) {
	r := rand.New(rand.NewSource(89))
	many := 0
	for _, c := range settings() {
		for _, m := range manyModels(r, c.s, 30) {
			list := allSets(m)
			sets := impl.MadeOf(c.s, m, list[r.Intn(len(list))])
			part, ok := impl.PartModel(c.s, m, sets)
			if !ok {
				continue
			}
			list = allSets(part)
			inner := impl.MadeOf(c.s, part, list[r.Intn(len(list))])
			var outer []int
			for sort, set := range inner {
				var values []int
				for _, place := range valuesOf(set) {
					values = append(values, valuesOf(sets[sort])[place])
				}
				outer = append(outer, setOf(values...))
			}
			twice, okTwice := impl.PartModel(c.s, part, inner)
			once, okOnce := impl.PartModel(c.s, m, outer)
			wantModel(t, twice, okTwice, once, okOnce, c, m, sets, inner, outer)
			if okTwice && !sameModel(part, twice) {
				many++
			}
		}
	}
	if many < 50 {
		t.Fatal(many)
	}
}
