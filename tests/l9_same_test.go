package tests

import (
	"math/rand"
	"slices"
	"testing"

	"loop.example/theorymodules/impl"
)

// checkSameBothWays looks whether the map that leads a model to one that is the same is one of models, leads no two values to one, and is the first one of its kind; whether there is one the other way exactly if there is one; and whether the same equations of operations alone, and others, hold in both then. It reports whether there is one.
func checkSameBothWays(t *testing.T, s impl.Sig, a, b impl.Model, more []impl.Eq) bool {
	t.Helper()
	h, ok := impl.SameModels(s, a, b)
	if checkSameModels(t, s, a, b) != checkSameModels(t, s, b, a) {
		t.Fatal("one way alone", s, a, b)
	}
	if !ok {
		return false
	}
	if !impl.HomOk(s, a, b, h) {
		t.Fatal("no map", s, a, b, h)
	}
	for _, row := range h {
		if len(slices.Compact(slices.Sorted(slices.Values(row)))) != len(row) {
			t.Fatal("two to one", s, a, b, h)
		}
	}
	for _, e := range append(aloneEqs(s), more...) {
		if impl.Holds(s, a, e) != impl.Holds(s, b, e) {
			t.Fatal("not the same", s, a, b, e)
		}
	}
	// Those before it in the list of all maps lead two values to one.
	for _, other := range impl.HomsOf(s, a, b) {
		if sameRows(other, h) {
			return true
		}
		if !slices.ContainsFunc(other, func(row []int) bool { return len(slices.Compact(slices.Sorted(slices.Values(row)))) < len(row) }) {
			t.Fatal("not the first one", s, a, b, h, other)
		}
	}
	t.Fatal("not one of all maps", s, a, b, h)
	return false
}

// Models whose values are changed about, in all orders, are the same.
func TestP33TheSameModelsHoldTheSame(t *testing.T) {
	r := rand.New(rand.NewSource(310))
	seen := map[bool]int{}
	for _, c := range settings() {
		for _, m := range manyModels(r, c.s, 3) {
			if tooManyMaps(m.Sizes) {
				continue
			}
			more := modelEqs(r, c, 3)
			for _, h := range ordersByHand(m.Sizes) {
				other := orderedBy(c.s, m, h)
				if !impl.HomOk(c.s, m, other, h) || !checkSameBothWays(t, c.s, m, other, more) {
					t.Fatal("not the same", c, m, h, other)
				}
				near := nearModel(r, c.s, other)
				seen[checkSameBothWays(t, c.s, m, near, more)]++
			}
		}
	}
	wantSeen(t, seen, 2, 100)
}

// Any two models with few values: those of which there is a map the other way are the same, and the same as each that is the same as one of them.
func TestP33AnyTwoModels(t *testing.T) {
	for _, c := range []struct {
		sig   string
		sizes []int
		kinds int
	}{
		{"1:", []int{3}, 1},
		{"1:0", []int{3}, 1},
		{"1:0,0", []int{3}, 2},
		{"1:0,0,0", []int{3}, 5},
		{"1:00", []int{2}, 3},
		{"1:00", []int{3}, 7},
		{"1:00,0", []int{2}, 4},
		{"1:000", []int{2}, 10},
		{"2:01", []int{2, 2}, 2},
		{"2:01", []int{3, 2}, 2},
		{"2:01", []int{2, 3}, 2},
		{"2:01,1", []int{2, 2}, 3},
		{"2:010", []int{2, 2}, 7},
		{"3:0,01,12", []int{2, 2, 2}, 4},
		{"3:012", []int{1, 2, 3}, 2},
		{"3:012", []int{2, 1, 2}, 2},
		{"3:012", []int{3, 3, 1}, 1},
	} {
		s := sigOf(c.sig)
		all := modelsByHand(impl.Theory{Over: s}, c.sizes)
		var kinds []impl.Model
		for _, a := range all {
			before := slices.IndexFunc(kinds, func(m impl.Model) bool { return checkSameBothWays(t, s, m, a, nil) })
			if before < 0 {
				kinds = append(kinds, a)
				before = len(kinds) - 1
			}
			for i, m := range kinds {
				if _, ok := impl.SameModels(s, a, m); ok != (i == before) {
					t.Fatal(c, a, m, ok)
				}
			}
			for _, b := range all {
				checkSameModels(t, s, a, b)
			}
		}
		if len(kinds) != c.kinds {
			t.Fatal(c, kinds)
		}
	}
}

// sameCase is two models of a signature, and the map that leads the first one to the second one; nil if they are not the same.
type sameCase struct {
	s    string
	a, b impl.Model
	want [][]int
}

// checkSameCases compares which models are the same.
func checkSameCases(t *testing.T, list []sameCase) {
	t.Helper()
	for _, c := range list {
		s := sigOf(c.s)
		got, ok := impl.SameModels(s, c.a, c.b)
		if ok != (c.want != nil) || !sameRows(got, c.want) || !ok && got != nil {
			t.Fatal(c, got, ok)
		}
		if checkSameBothWays(t, s, c.a, c.b, nil) != ok {
			t.Fatal(c)
		}
	}
}

func TestKnownModelsThatAreTheSame(t *testing.T) {
	k := knownModels()
	two, three, unit := k[0], k[1], k[2]
	lesser, greater := modelOf([]int{2}, []int{0, 0, 0, 1}), modelOf([]int{2}, []int{0, 1, 1, 1})
	checkSameCases(t, []sameCase{
		// A model and itself: the map that leaves all is the first one, if no other leads no two values to one.
		{"1:000,0,00", two, two, [][]int{{0, 1}}},
		{"1:000,0,00", three, three, [][]int{{0, 1, 2}}},
		{"1:000,0,00", k[3], k[3], [][]int{{0, 1, 2}}},
		{"1:000,0,00", two, unit, [][]int{{1, 0}}},
		{"1:000,0,00", unit, two, [][]int{{1, 0}}},
		{"1:000", lesser, greater, [][]int{{1, 0}}},
		{"1:000", lesser, lesser, [][]int{{0, 1}}},
		// The same number of values, and they differ.
		{"1:000,0,00", two, k[4], nil},
		{"1:000,0,00", unit, k[4], nil},
		{"1:000,0,00", three, k[3], nil},
		{"1:000,0,00", three, k[5], nil},
		{"1:000,0,00", k[3], k[5], nil},
		{"1:000", lesser, modelOf([]int{2}, []int{0, 0, 1, 1}), nil},
		{"1:000", lesser, modelOf([]int{2}, []int{0, 1, 0, 1}), nil},
		{"1:000", modelOf([]int{2}, []int{0, 0, 1, 1}), modelOf([]int{2}, []int{0, 1, 0, 1}), nil},
		{"1:000", modelOf([]int{2}, []int{0, 0, 0, 0}), modelOf([]int{2}, []int{1, 1, 1, 1}), [][]int{{1, 0}}},
		// Of several maps the first one, which is not always the one that leaves all.
		{"1:00", modelOf([]int{3}, []int{1, 2, 0}), modelOf([]int{3}, []int{1, 2, 0}), [][]int{{0, 1, 2}}},
		{"1:00", modelOf([]int{3}, []int{1, 2, 0}), modelOf([]int{3}, []int{2, 0, 1}), [][]int{{0, 2, 1}}},
		{"1:00", modelOf([]int{3}, []int{1, 0, 2}), modelOf([]int{3}, []int{0, 2, 1}), [][]int{{1, 2, 0}}},
		{"1:00", modelOf([]int{3}, []int{1, 1, 1}), modelOf([]int{3}, []int{0, 0, 0}), [][]int{{1, 0, 2}}},
		{"1:00", modelOf([]int{3}, []int{1, 1, 1}), modelOf([]int{3}, []int{2, 2, 2}), [][]int{{0, 2, 1}}},
		{"1:00", modelOf([]int{3}, []int{1, 2, 2}), modelOf([]int{3}, []int{0, 0, 1}), [][]int{{2, 1, 0}}},
		{"1:00", modelOf([]int{3}, []int{0, 0, 1}), modelOf([]int{3}, []int{0, 0, 0}), nil},
		{"1:00", modelOf([]int{3}, []int{1, 0, 2}), modelOf([]int{3}, []int{1, 2, 0}), nil},
		// There is a map, but only such that lead two values to one, one way or both.
		{"1:00", modelOf([]int{2}, []int{1, 0}), modelOf([]int{2}, []int{0, 1}), nil},
		{"1:00", modelOf([]int{2}, []int{0, 1}), modelOf([]int{2}, []int{0, 0}), nil},
		{"1:0,0", modelOf([]int{3}, []int{0}, []int{2}), modelOf([]int{3}, []int{2}, []int{1}), [][]int{{2, 0, 1}}},
		{"1:0,0", modelOf([]int{3}, []int{0}, []int{2}), modelOf([]int{3}, []int{1}, []int{1}), nil},
	})
}

func TestModelsOfMoreSortsThatAreTheSame(t *testing.T) {
	checkSameCases(t, []sameCase{
		// Without operations, and sorts of one value.
		{"1:", modelOf([]int{1}), modelOf([]int{1}), [][]int{{0}}},
		{"1:", modelOf([]int{3}), modelOf([]int{3}), [][]int{{0, 1, 2}}},
		{"2:", modelOf([]int{2, 1}), modelOf([]int{2, 1}), [][]int{{0, 1}, {0}}},
		{"3:", modelOf([]int{1, 1, 1}), modelOf([]int{1, 1, 1}), [][]int{{0}, {0}, {0}}},
		{"1:000,0,00", oneValue(sigOf("1:000,0,00")), oneValue(sigOf("1:000,0,00")), [][]int{{0}}},
		{"3:012,2", modelOf([]int{1, 1, 1}, []int{0}, []int{0}), modelOf([]int{1, 1, 1}, []int{0}, []int{0}), [][]int{{0}, {0}, {0}}},
		// Other sizes: fewer, more, and as many in all; also where a map leads no two values to one.
		{"1:", modelOf([]int{2}), modelOf([]int{3}), nil},
		{"1:", modelOf([]int{1}), modelOf([]int{2}), nil},
		{"1:", modelOf([]int{1}), modelOf([]int{3}), nil},
		{"2:", modelOf([]int{1, 2}), modelOf([]int{2, 1}), nil},
		{"2:", modelOf([]int{2, 2}), modelOf([]int{2, 3}), nil},
		{"2:", modelOf([]int{2, 2}), modelOf([]int{1, 2}), nil},
		{"3:", modelOf([]int{1, 2, 3}), modelOf([]int{3, 2, 1}), nil},
		{"1:00", modelOf([]int{2}, []int{1, 0}), modelOf([]int{3}, []int{1, 0, 2}), nil},
		{"1:0", modelOf([]int{2}, []int{1}), modelOf([]int{3}, []int{1}), nil},
		{"2:01", modelOf([]int{2, 3}, []int{0, 0}), modelOf([]int{3, 2}, []int{0, 0, 0}), nil},
		// Each sort has an order of its own.
		{"2:01", modelOf([]int{2, 2}, []int{0, 1}), modelOf([]int{2, 2}, []int{1, 0}), [][]int{{0, 1}, {1, 0}}},
		{"2:01,1", modelOf([]int{2, 2}, []int{0, 1}, []int{0}), modelOf([]int{2, 2}, []int{1, 0}, []int{0}), [][]int{{1, 0}, {0, 1}}},
		{"2:01,0,1", modelOf([]int{2, 2}, []int{0, 1}, []int{0}, []int{0}), modelOf([]int{2, 2}, []int{1, 0}, []int{0}, []int{0}), nil},
		{"2:01,0,1", modelOf([]int{2, 2}, []int{0, 1}, []int{0}, []int{0}), modelOf([]int{2, 2}, []int{1, 0}, []int{1}, []int{0}), [][]int{{1, 0}, {0, 1}}},
		{"2:01", modelOf([]int{2, 3}, []int{2, 0}), modelOf([]int{2, 3}, []int{1, 2}), [][]int{{0, 1}, {2, 0, 1}}},
		{"2:01", modelOf([]int{2, 3}, []int{2, 2}), modelOf([]int{2, 3}, []int{1, 2}), nil},
		{"2:01", modelOf([]int{3, 2}, []int{0, 1, 1}), modelOf([]int{3, 2}, []int{0, 0, 1}), [][]int{{2, 0, 1}, {1, 0}}},
		{"2:010", modelOf([]int{2, 2}, []int{0, 0, 0, 1}), modelOf([]int{2, 2}, []int{1, 0, 1, 1}), [][]int{{1, 0}, {0, 1}}},
		{"2:010", modelOf([]int{2, 2}, []int{0, 0, 0, 1}), modelOf([]int{2, 2}, []int{0, 0, 1, 0}), [][]int{{0, 1}, {1, 0}}},
		{"2:010", modelOf([]int{2, 2}, []int{0, 0, 0, 1}), modelOf([]int{2, 2}, []int{0, 1, 0, 0}), nil},
		{"3:012", modelOf([]int{1, 2, 2}, []int{0, 1}), modelOf([]int{1, 2, 2}, []int{1, 0}), [][]int{{0}, {0, 1}, {1, 0}}},
		{"3:012", modelOf([]int{1, 2, 2}, []int{0, 1}), modelOf([]int{1, 2, 2}, []int{1, 1}), nil},
		{"3:2,01", modelOf([]int{3, 3, 1}, []int{0}, []int{0, 0, 1}), modelOf([]int{3, 3, 1}, []int{0}, []int{2, 1, 2}), [][]int{{0, 2, 1}, {2, 1, 0}, {0}}},
	})
}

// Up to 2916 ways to lead values they are gone through; the next number of ways, for models with the same sizes, is 19683, and then no model is the same as any, not even as itself.
func TestTooManyMapsToGoThrough(t *testing.T) {
	turn, back := []int{1, 2, 0}, []int{2, 0, 1}
	for _, s := range []impl.Sig{sigOf("3:"), sigOf("3:0,1"), sigOf("3:00,11,22")} {
		for _, sizes := range allSizes(3, 3) {
			m := zeroModel(s, sizes)
			if h, ok := impl.SameModels(s, m, m); ok == tooManyMaps(sizes) || ok && !sameRows(h, selfRows(m)) || !ok && h != nil {
				t.Fatal(s, sizes, h, ok)
			}
		}
	}
	s := sigOf("3:00,11,22")
	for _, c := range []struct {
		a, b impl.Model
		want [][]int
	}{
		{modelOf([]int{3, 3, 2}, turn, turn, []int{0, 1}), modelOf([]int{3, 3, 2}, back, turn, []int{0, 1}), [][]int{{0, 2, 1}, {0, 1, 2}, {0, 1}}},
		{modelOf([]int{3, 2, 3}, turn, []int{0, 0}, turn), modelOf([]int{3, 2, 3}, turn, []int{1, 1}, back), [][]int{{0, 1, 2}, {1, 0}, {0, 2, 1}}},
		{modelOf([]int{2, 3, 3}, []int{1, 0}, turn, turn), modelOf([]int{2, 3, 3}, []int{0, 1}, turn, turn), nil},
		{modelOf([]int{3, 3, 3}, turn, turn, turn), modelOf([]int{3, 3, 3}, turn, turn, turn), nil},
		{modelOf([]int{3, 3, 3}, turn, turn, turn), modelOf([]int{3, 3, 3}, back, back, back), nil},
		{modelOf([]int{3, 3, 3}, turn, turn, turn), modelOf([]int{3, 3, 3}, []int{0, 0, 0}, back, back), nil},
		{modelOf([]int{3, 3, 3}, turn, turn, turn), modelOf([]int{3, 3, 2}, turn, turn, []int{0, 1}), nil},
	} {
		if got, ok := impl.SameModels(s, c.a, c.b); ok != (c.want != nil) || !sameRows(got, c.want) || !ok && got != nil {
			t.Fatal(c, got, ok)
		}
		checkSameModels(t, s, c.a, c.b)
	}
}

func TestWhatIsNoModelIsNotTheSame(t *testing.T) {
	none := func(s impl.Sig, a, b impl.Model) {
		t.Helper()
		if h, ok := impl.SameModels(s, a, b); ok || h != nil {
			t.Fatal(s, a, b, h)
		}
	}
	for _, s := range []impl.Sig{sigOf("1:"), sigOf("1:000,0,00"), sigOf("2:010,01,1,0"), sigOf("3:012,2"), sigOf("3:")} {
		for _, m := range []impl.Model{oneValue(s), zeroModel(s, []int{2, 3, 1}[:s.Sorts])} {
			for _, bad := range badModels(s, m) {
				none(s, bad, m)
				none(s, m, bad)
				none(s, bad, bad)
			}
		}
		// Models of another signature, on one side and on both.
		one, other := oneValue(s), oneValue(sigOf("2:0,1,00,11,01"))
		none(s, one, other)
		none(s, other, one)
		none(s, other, other)
		none(s, impl.Model{}, impl.Model{})
	}
	for _, bad := range invalidSigs() {
		none(bad, oneValue(bad), oneValue(bad))
		none(bad, impl.Model{}, impl.Model{})
		none(bad, oneValue(sigOf("1:")), oneValue(sigOf("1:")))
	}
}
