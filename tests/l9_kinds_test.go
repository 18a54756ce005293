package tests

import (
	"slices"
	"testing"

	"loop.example/theorymodules/impl"
)

// checkOfOneKind looks whether each model of a theory is the same as just one kind, which is not behind it and of which it is the first one if it is told itself.
func checkOfOneKind(t *testing.T, theory impl.Theory, models, kinds []impl.Model) {
	t.Helper()
	next := 0
	for _, m := range models {
		same := -1
		for i, kind := range kinds {
			if _, ok := impl.SameModels(theory.Over, kind, m); ok && same >= 0 {
				t.Fatal("two kinds", theory, m, kinds[same], kind)
			} else if ok {
				same = i
			}
		}
		if same < 0 || same > next || (same == next) != (next < len(kinds) && sameModel(m, kinds[next])) {
			t.Fatal("of no kind, or not the first one of it", theory, m, kinds, same)
		}
		if same == next {
			next++
		}
	}
	if next != len(kinds) {
		t.Fatal("not all are models", theory, kinds)
	}
}

// All sizes of 1 and 2 are gone through; where there are many models, they are only compared with what the document tells.
func TestP34EveryModelIsOfOneKind(t *testing.T) {
	seen := map[int]int{}
	for _, theory := range smallTheories(320, 250) {
		for _, other := range []impl.Theory{theory, {Over: theory.Over}} {
			for _, sizes := range allSizes(other.Over.Sorts, 2) {
				models, kinds := impl.ModelsOf(other, sizes), checkKinds(t, other, sizes)
				if len(models)*len(kinds) <= 2500 {
					checkOfOneKind(t, other, models, kinds)
				}
				seen[min(len(models)-len(kinds), 1)]++
				if tableWays(other.Over, sizes) > 3000 {
					wantModels(t, kinds, nil, other, sizes)
				}
			}
		}
	}
	wantSeen(t, seen, 2, 300)
}

func TestKindsWithThreeValues(t *testing.T) {
	seen := map[int]int{}
	for _, theory := range smallTheories(321, 100) {
		for _, sizes := range allSizes(theory.Over.Sorts, 3) {
			if slices.Max(sizes) < 3 || tooManyMaps(sizes) {
				continue
			}
			models, kinds := impl.ModelsOf(theory, sizes), checkKinds(t, theory, sizes)
			if len(models)*len(kinds) <= 400 {
				checkOfOneKind(t, theory, models, kinds)
			}
			seen[min(len(models)-len(kinds), 1)]++
		}
	}
	wantSeen(t, seen, 2, 100)
}

// Where there are too many maps to go through, no model is the same as one before, so that all are told.
func TestKindsWhereThereAreTooManyMaps(t *testing.T) {
	sizes := []int{3, 3, 3}
	for _, c := range []struct {
		theory impl.Theory
		many   int
	}{
		{known("3:"), 1},
		{known("3:", "22 x0=x1"), 0},
		{known("3:0"), 3},
		{known("3:0,1"), 9},
		{known("3:2,2,1"), 27},
		{known("3:11"), 27},
		{known("3:01", "00 f0(x0)=f0(x1)"), 3},
		{known("3:00,11", "0 f0(f0(x0))=x0", "1 f1(f1(x0))=x0"), 16},
		{known("3:00,11,2"), 2187},
		{known("3:00,11,2,0"), 0},
	} {
		models, kinds := impl.ModelsOf(c.theory, sizes), checkKinds(t, c.theory, sizes)
		wantModels(t, kinds, models, c)
		if len(kinds) != c.many {
			t.Fatal(c, len(kinds))
		}
	}
}

func TestHowManyKinds(t *testing.T) {
	assoc, turn, same := "000 f0(f0(x0,x1),x2)=f0(x0,f0(x1,x2))", "00 f0(x0,x1)=f0(x1,x0)", "0 f0(x0,x0)=x0"
	for _, c := range []manyCase{
		// Without axioms.
		{"1:000", nil, []int{1}, 1},
		{"1:000", nil, []int{2}, 10},
		{"1:000", nil, []int{3}, 0},
		{"1:00", nil, []int{2}, 3},
		{"1:00", nil, []int{3}, 7},
		{"1:00,00", nil, []int{2}, 10},
		{"1:00,00", nil, []int{3}, 129},
		{"1:0", nil, []int{3}, 1},
		{"1:0,0", nil, []int{3}, 2},
		{"1:0,0,0,0,0,0", nil, []int{3}, 122},
		{"2:01", nil, []int{3, 3}, 3},
		{"2:01,0", nil, []int{3, 3}, 4},
		{"2:0,1", nil, []int{3, 3}, 1},
		{"3:012", nil, []int{2, 1, 3}, 2},
		{"3:00,11,2,2", nil, []int{3, 3, 2}, 98},
		{"3:00,11,2,2,2", nil, []int{3, 3, 2}, 0},
		// Without operations.
		{"1:", nil, []int{1}, 1},
		{"1:", nil, []int{2}, 1},
		{"1:", nil, []int{3}, 1},
		{"1:", []string{"00 x0=x1"}, []int{3}, 0},
		{"2:", nil, []int{2, 3}, 1},
		{"3:", nil, []int{2, 3, 2}, 1},
		{"3:", []string{"11 x0=x1"}, []int{2, 1, 2}, 1},
		// Known theories.
		{"1:000", []string{assoc}, []int{2}, 5},
		{"1:000", []string{turn}, []int{2}, 4},
		{"1:000", []string{same}, []int{2}, 3},
		{"1:000", []string{assoc, turn, same}, []int{2}, 1},
		{"1:000,0,00", []string{assoc, "0 f0(f1,x0)=x0", "0 f0(f2(x0),x0)=f1"}, []int{2}, 1},
		{"1:000,0,00", []string{assoc, "0 f0(f1,x0)=x0", "0 f0(f2(x0),x0)=f1"}, []int{1}, 1},
		{"1:000,0", []string{assoc, "0 f0(f1,x0)=x0", "0 f0(x0,f1)=x0"}, []int{2}, 2},
		{"1:00", []string{"0 f0(f0(x0))=x0"}, []int{3}, 2},
		{"1:00", []string{"0 f0(f0(x0))=f0(x0)"}, []int{3}, 3},
		{"2:01,10", []string{"0 f1(f0(x0))=x0"}, []int{2, 3}, 1},
		{"2:01,10", []string{"0 f1(f0(x0))=x0"}, []int{3, 2}, 0},
	} {
		if list := checkKinds(t, known(c.sig, c.axioms...), c.sizes); len(list) != c.many {
			t.Fatal(c, len(list), list)
		}
	}
}

func TestListsOfKinds(t *testing.T) {
	for _, c := range []struct {
		theory impl.Theory
		want   []impl.Model
	}{
		{known("1:00"), []impl.Model{modelOf([]int{2}, []int{0, 0}), modelOf([]int{2}, []int{0, 1}), modelOf([]int{2}, []int{1, 0})}},
		{known("1:00"), []impl.Model{
			modelOf([]int{3}, []int{0, 0, 0}), modelOf([]int{3}, []int{0, 0, 1}), modelOf([]int{3}, []int{0, 0, 2}), modelOf([]int{3}, []int{0, 1, 2}),
			modelOf([]int{3}, []int{0, 2, 1}), modelOf([]int{3}, []int{1, 0, 0}), modelOf([]int{3}, []int{1, 2, 0}),
		}},
		{known("2:0,1"), []impl.Model{modelOf([]int{2, 3}, []int{0}, []int{0})}},
		{known("1:0,0"), []impl.Model{modelOf([]int{3}, []int{0}, []int{0}), modelOf([]int{3}, []int{0}, []int{1})}},
		{known("1:0,00", "0 f1(f1(x0))=x0"), []impl.Model{modelOf([]int{2}, []int{0}, []int{0, 1}), modelOf([]int{2}, []int{0}, []int{1, 0})}},
		{known("1:000", "000 f0(f0(x0,x1),x2)=f0(x0,f0(x1,x2))"), []impl.Model{
			modelOf([]int{2}, []int{0, 0, 0, 0}), modelOf([]int{2}, []int{0, 0, 0, 1}), modelOf([]int{2}, []int{0, 0, 1, 1}), modelOf([]int{2}, []int{0, 1, 0, 1}), modelOf([]int{2}, []int{0, 1, 1, 0}),
		}},
		{known("2:010", "01 f0(f0(x0,x1),x1)=x0", "001 f0(x0,x2)=f0(f0(x1,x2),x2)"), nil},
		{known("2:01", "00 f0(x0)=f0(x1)"), []impl.Model{modelOf([]int{3, 2}, []int{0, 0, 0})}},
		{known("2:10"), []impl.Model{modelOf([]int{3, 3}, []int{0, 0, 0}), modelOf([]int{3, 3}, []int{0, 0, 1}), modelOf([]int{3, 3}, []int{0, 1, 2})}},
	} {
		sizes := []int{2, 2}
		if c.want != nil {
			sizes = c.want[0].Sizes
		}
		wantModels(t, checkKinds(t, c.theory, sizes), c.want, c)
	}
}

// Models that ModelsOf does not tell have no kinds.
func TestKindsOfWhatIsNotOk(t *testing.T) {
	none := func(theory impl.Theory, sizes []int) {
		t.Helper()
		wantModels(t, impl.KindsOf(theory, sizes), nil, theory, sizes)
	}
	for _, theory := range smallTheories(322, 40) {
		for _, wrong := range wrongSizes([]int{2, 1, 2}[:theory.Over.Sorts]) {
			none(theory, wrong)
			none(impl.Theory{Over: theory.Over}, wrong)
		}
	}
	for _, bad := range badTheories() {
		for _, sizes := range [][]int{nil, {1}, {2}, {2, 2}, {2, 2, 2}, {1, 1, 1, 1}} {
			none(bad, sizes)
		}
	}
	for _, s := range []impl.Sig{sigOf("1:"), sigOf("1:000"), sigOf("2:01"), sigOf("3:")} {
		for _, axioms := range badAxioms(s) {
			none(impl.Theory{Over: s, Axioms: axioms}, []int{2, 2, 2}[:s.Sorts])
		}
		for _, size := range []int{2, 3} {
			none(impl.Theory{Over: impl.Sig{Sorts: s.Sorts, Ops: greatest(s.Sorts).Ops}}, slices.Repeat([]int{size}, s.Sorts))
		}
	}
	none(impl.Theory{}, nil)
}
