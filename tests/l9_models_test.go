package tests

import (
	"math"
	"math/rand"
	"slices"
	"testing"

	"loop.example/theorymodules/impl"
)

func TestP32AllOfThemAreModels(t *testing.T) {
	seen := map[int]int{}
	for _, theory := range smallTheories(300, 300) {
		for _, sizes := range allSizes(theory.Over.Sorts, 3) {
			list := checkModels(t, theory, sizes)
			for i, m := range list {
				if !sameRow(m.Sizes, sizes) || !impl.IsModel(theory, m) {
					t.Fatal("no model with these sizes", theory, sizes, m)
				}
				// In their order none stands twice.
				if i > 0 && slices.Compare(joined(list[i-1].Tables...), joined(m.Tables...)) >= 0 {
					t.Fatal("order", theory, list[i-1], m)
				}
			}
			seen[min(len(list), 2)]++
		}
	}
	wantSeen(t, seen, 3, 300)
}

// Each model that there is, by chance, is told where models are told; what is no model of the axioms is not.
func TestP32NoOthersAreModels(t *testing.T) {
	seen := map[bool]int{}
	for i, theory := range smallTheories(301, 200) {
		r := rand.New(rand.NewSource(int64(i + 5000)))
		for _, m := range manyModels(r, theory.Over, 6) {
			list := impl.ModelsOf(theory, m.Sizes)
			told := slices.ContainsFunc(list, func(other impl.Model) bool { return sameModel(other, m) })
			if told != (impl.IsModel(theory, m) && tableWays(theory.Over, m.Sizes) <= 3000) {
				t.Fatal(theory, m, told)
			}
			seen[told]++
		}
	}
	wantSeen(t, seen, 2, 300)
}

// Without axioms there are as many models as there are ways to choose the tables, as far as these are not too many: of all signatures with all sizes that there are, and some that there are not.
func TestP32AsManyAsThereAreWays(t *testing.T) {
	seen := map[int]int{}
	for _, s := range validSigs() {
		for _, row := range allRows([]int{5, 5, 5}[:s.Sorts]) {
			list := impl.ModelsOf(impl.Theory{Over: s}, row)
			if slices.Min(row) == 0 || slices.Max(row) == 4 {
				wantModels(t, list, nil, s, row)
				continue
			}
			ways := tableWays(s, row)
			if ways > 3000 {
				wantModels(t, list, nil, s, row)
			} else if len(list) != ways || ways == 1 && !sameModel(list[0], zeroModel(s, row)) {
				t.Fatal(s, row, ways, list)
			}
			seen[ways]++
		}
	}
	if seen[1] < 100 || seen[2] < 100 || seen[100000] < 100 {
		t.Fatal(seen)
	}
}

// There can be 2916 ways, and then 3072: no number between them is a product of 2 and 3.
func TestAsManyWaysAsAreAllowed(t *testing.T) {
	for _, c := range []struct {
		sig   string
		sizes []int
		ways  int
	}{
		{"2:010,1,1", []int{3, 2}, 2916},
		{"2:1,010,1", []int{3, 2}, 2916},
		{"2:00,00,1,1", []int{3, 2}, 2916},
		{"3:100,21,21", []int{3, 2, 1}, 2916},
		{"3:100,21,20", []int{3, 2, 1}, 4374},
		{"3:10,20,00,1,2", []int{3, 2, 1}, 1458},
		{"3:10,20,00,1,1", []int{3, 2, 1}, 2916},
		{"2:001,1,0", []int{3, 2}, 3072},
		{"2:0,001,1", []int{3, 2}, 3072},
		{"2:0,1,001", []int{3, 2}, 3072},
		{"2:111,11,11,1,1,0", []int{3, 2}, 3072},
		{"3:122,11,22,1,2,0", []int{3, 2, 2}, 3072},
		{"1:0,0,0,0,0,0", []int{3}, 729},
		{"2:00,00,0,1", []int{3, 2}, 4374},
		{"1:000,00,00,0", []int{2}, 512},
		{"1:000,00,00,00", []int{2}, 1024},
		{"1:000,00,00,00,0", []int{2}, 2048},
		{"1:000,00,00,00,0,0", []int{2}, 4096},
		{"1:000,000,00,00", []int{2}, 4096},
		{"1:00,00,0", []int{3}, 2187},
		{"1:00,00,0,0", []int{3}, 6561},
		{"1:000", []int{3}, 19683},
		// So many that they cannot be counted, and as many at sizes of 1.
		{"1:000,000,000,000,000,000", []int{3}, 100000},
		{"1:000,000,000,000,000,000", []int{2}, 100000},
		{"1:000,000,000,000,000,000", []int{1}, 1},
		{"2:001,001,001,001,001,001", []int{3, 2}, 100000},
		{"2:001,001,001,001,001,001", []int{3, 1}, 1},
		{"2:001,001,001,001,001,001", []int{1, 3}, 729},
		{"3:012,012,012,012,012,012", []int{3, 3, 3}, 100000},
		{"3:012,012,012,012,012,012", []int{3, 3, 1}, 1},
		{"3:012,012,012,012,012,012", []int{1, 1, 3}, 729},
		// Many ways for one operation, behind others and ahead of them, also such that have one way alone.
		{"2:111,0,0", []int{3, 3}, 100000},
		{"2:0,0,111", []int{3, 3}, 100000},
		{"2:000,0,00,10,100,1", []int{1, 3}, 3},
	} {
		s := sigOf(c.sig)
		ways := tableWays(s, c.sizes)
		list := impl.ModelsOf(impl.Theory{Over: s}, c.sizes)
		if ways != c.ways || ways <= 3000 && len(list) != ways || ways > 3000 && list != nil {
			t.Fatal(c, ways, len(list))
		}
		checkModels(t, impl.Theory{Over: s}, c.sizes)
	}
	for twos := 1; twos < 100000; twos *= 2 {
		for ways := twos; ways < 100000; ways *= 3 {
			if ways > 2916 && ways < 3072 {
				t.Fatal("there is a nearer one", ways)
			}
		}
	}
}

// The bound is for the ways to choose tables, and not for the models.
func TestFewModelsAmongTooManyWays(t *testing.T) {
	for _, axiom := range []string{"00 x0=x1", "00 f0(x0,x1)=x0", "0000 f0(x0,x1)=f0(x2,x3)"} {
		theory := known("1:000", axiom)
		if checkModels(t, theory, []int{3}) != nil || len(checkModels(t, theory, []int{1})) != 1 {
			t.Fatal(theory)
		}
	}
	// With one way less there are all.
	if list := checkModels(t, known("2:010,1,1", "0 x0=f0(x0,f1)"), []int{3, 2}); len(list) != 108 {
		t.Fatal(len(list))
	}
	if list := checkModels(t, known("2:001,1,0", "00 x0=x1"), []int{3, 2}); list != nil {
		t.Fatal(len(list))
	}
}

// manyCase is a theory, sizes, and how many models there are.
type manyCase struct {
	sig    string
	axioms []string
	sizes  []int
	many   int
}

func TestHowManyModels(t *testing.T) {
	assoc, turn, same := "000 f0(f0(x0,x1),x2)=f0(x0,f0(x1,x2))", "00 f0(x0,x1)=f0(x1,x0)", "0 f0(x0,x0)=x0"
	for _, c := range []manyCase{
		{"1:000", nil, []int{2}, 16},
		{"1:000", []string{assoc}, []int{2}, 8},
		{"1:000", []string{turn}, []int{2}, 8},
		{"1:000", []string{same}, []int{2}, 4},
		{"1:000", []string{assoc, turn}, []int{2}, 6},
		{"1:000", []string{assoc, turn, same}, []int{2}, 2},
		{"1:000", []string{same, turn, assoc}, []int{2}, 2},
		{"1:000", []string{same, same, same, same, same, same}, []int{2}, 4},
		{"1:000", []string{assoc, turn, same}, []int{1}, 1},
		{"1:000,0,00", nil, []int{2}, 128},
		{"1:000,0,00", []string{assoc, "0 f0(f1,x0)=x0", "0 f0(f2(x0),x0)=f1"}, []int{2}, 2},
		{"1:000,0,00", []string{assoc, "0 f0(f1,x0)=x0", "0 f0(f2(x0),x0)=f1"}, []int{3}, 0},
		{"1:00", []string{"0 f0(f0(x0))=x0"}, []int{3}, 4},
		{"1:00", []string{"0 f0(f0(x0))=f0(x0)"}, []int{3}, 10},
		{"1:00", []string{"00 f0(x0)=f0(x1)"}, []int{3}, 3},
		{"1:00", []string{"0 f0(f0(f0(x0)))=x0"}, []int{3}, 3},
		{"1:00", []string{"0 f0(f0(f0(x0)))=x0"}, []int{2}, 1},
		{"1:00,0", []string{"0 f0(x0)=f1"}, []int{3}, 3},
		// Sorts of one value: all equations hold.
		{"1:000,0,00", []string{"00 x0=x1", " f1=f2(f1)", "0 f0(x0,x0)=f1"}, []int{1}, 1},
		{"2:010,1,00", []string{"11 x0=x1"}, []int{3, 1}, 729},
		{"2:010,1,00", []string{"11 x0=x1", "00 x0=x1"}, []int{1, 1}, 1},
		{"3:012,2", []string{"00 x0=x1", "11 x0=x1"}, []int{1, 1, 3}, 9},
		{"3:012,2", []string{"00 x0=x1", "01 f0(x0,x1)=f1"}, []int{1, 1, 3}, 3},
		{"3:012,2", []string{"01 f0(x0,x1)=f1"}, []int{2, 3, 2}, 2},
		{"3:012,2", []string{"01 f0(x0,x1)=f1"}, []int{2, 3, 1}, 1},
		{"3:012,2", []string{"22 x0=x1"}, []int{3, 3, 1}, 1},
		// No model of these sizes fulfils them.
		{"1:", []string{"00 x0=x1"}, []int{2}, 0},
		{"1:", []string{"00 x0=x1"}, []int{3}, 0},
		{"1:00", []string{"0 f0(f0(x0))=x0", "00 f0(x0)=f0(x1)"}, []int{2}, 0},
		{"1:00", []string{"0 f0(f0(x0))=x0", "00 f0(x0)=f0(x1)"}, []int{1}, 1},
		{"1:0,0", []string{"0 x0=f0"}, []int{2}, 0},
		{"2:01,10", []string{"0 f1(f0(x0))=x0"}, []int{3, 2}, 0},
		{"2:01,10", []string{"0 f1(f0(x0))=x0"}, []int{2, 3}, 12},
		{"2:01,10", []string{"0 f1(f0(x0))=x0"}, []int{2, 2}, 2},
		{"2:01,10", []string{"0 f1(f0(x0))=x0", "1 f0(f1(x0))=x0"}, []int{3, 3}, 6},
		{"2:01,10", []string{"0 f1(f0(x0))=x0", "1 f0(f1(x0))=x0"}, []int{2, 1}, 0},
		// Without operations: one way, if the axioms hold.
		{"1:", nil, []int{1}, 1},
		{"1:", nil, []int{3}, 1},
		{"1:", []string{"00 x0=x1"}, []int{1}, 1},
		{"1:", []string{"00 x0=x0", "0 x0=x0"}, []int{3}, 1},
		{"2:", nil, []int{3, 1}, 1},
		{"2:", []string{"11 x0=x1"}, []int{3, 1}, 1},
		{"2:", []string{"00 x0=x1"}, []int{3, 1}, 0},
		{"3:", nil, []int{3, 3, 3}, 1},
		{"3:", []string{"22 x1=x0"}, []int{3, 3, 3}, 0},
		{"3:", []string{"22 x1=x0"}, []int{3, 3, 1}, 1},
	} {
		if list := checkModels(t, known(c.sig, c.axioms...), c.sizes); len(list) != c.many {
			t.Fatal(c, len(list), list)
		}
	}
}

func TestListsOfModels(t *testing.T) {
	for _, c := range []struct {
		theory impl.Theory
		want   []impl.Model
	}{
		{known("1:"), []impl.Model{modelOf([]int{2})}},
		{known("2:0,1"), []impl.Model{
			modelOf([]int{2, 3}, []int{0}, []int{0}), modelOf([]int{2, 3}, []int{0}, []int{1}), modelOf([]int{2, 3}, []int{0}, []int{2}),
			modelOf([]int{2, 3}, []int{1}, []int{0}), modelOf([]int{2, 3}, []int{1}, []int{1}), modelOf([]int{2, 3}, []int{1}, []int{2}),
		}},
		{known("2:1,0"), []impl.Model{
			modelOf([]int{2, 3}, []int{0}, []int{0}), modelOf([]int{2, 3}, []int{0}, []int{1}),
			modelOf([]int{2, 3}, []int{1}, []int{0}), modelOf([]int{2, 3}, []int{1}, []int{1}),
			modelOf([]int{2, 3}, []int{2}, []int{0}), modelOf([]int{2, 3}, []int{2}, []int{1}),
		}},
		{known("1:00"), []impl.Model{modelOf([]int{2}, []int{0, 0}), modelOf([]int{2}, []int{0, 1}), modelOf([]int{2}, []int{1, 0}), modelOf([]int{2}, []int{1, 1})}},
		{known("1:00", "0 f0(f0(x0))=x0"), []impl.Model{
			modelOf([]int{3}, []int{0, 1, 2}), modelOf([]int{3}, []int{0, 2, 1}), modelOf([]int{3}, []int{1, 0, 2}), modelOf([]int{3}, []int{2, 1, 0}),
		}},
		{known("1:00,0", " f0(f1)=f1", "0 f0(f0(x0))=f1"), []impl.Model{
			modelOf([]int{2}, []int{0, 0}, []int{0}), modelOf([]int{2}, []int{1, 1}, []int{1}),
		}},
		{known("1:0,00", " f1(f0)=f0", "0 f1(f1(x0))=f0"), []impl.Model{
			modelOf([]int{2}, []int{0}, []int{0, 0}), modelOf([]int{2}, []int{1}, []int{1, 1}),
		}},
		{group().t, []impl.Model{
			modelOf([]int{2}, []int{0, 1, 1, 0}, []int{0}, []int{0, 1}), modelOf([]int{2}, []int{1, 0, 0, 1}, []int{1}, []int{0, 1}),
		}},
		{known("1:000", "000 f0(f0(x0,x1),x2)=f0(x0,f0(x1,x2))"), []impl.Model{
			modelOf([]int{2}, []int{0, 0, 0, 0}), modelOf([]int{2}, []int{0, 0, 0, 1}), modelOf([]int{2}, []int{0, 0, 1, 1}), modelOf([]int{2}, []int{0, 1, 0, 1}),
			modelOf([]int{2}, []int{0, 1, 1, 0}), modelOf([]int{2}, []int{0, 1, 1, 1}), modelOf([]int{2}, []int{1, 0, 0, 1}), modelOf([]int{2}, []int{1, 1, 1, 1}),
		}},
		// What is left is a value of another sort, of another size.
		{known("2:01", "00 f0(x0)=f0(x1)"), []impl.Model{modelOf([]int{2, 3}, []int{0, 0}), modelOf([]int{2, 3}, []int{1, 1}), modelOf([]int{2, 3}, []int{2, 2})}},
		{known("2:10,1", "1 f0(x0)=f0(f1)"), []impl.Model{
			modelOf([]int{2, 2}, []int{0, 0}, []int{0}), modelOf([]int{2, 2}, []int{0, 0}, []int{1}), modelOf([]int{2, 2}, []int{1, 1}, []int{0}), modelOf([]int{2, 2}, []int{1, 1}, []int{1}),
		}},
		{known("3:012", "011 f0(x0,x1)=f0(x0,x2)"), []impl.Model{
			modelOf([]int{2, 3, 2}, []int{0, 0, 0, 0, 0, 0}), modelOf([]int{2, 3, 2}, []int{0, 0, 0, 1, 1, 1}), modelOf([]int{2, 3, 2}, []int{1, 1, 1, 0, 0, 0}), modelOf([]int{2, 3, 2}, []int{1, 1, 1, 1, 1, 1}),
		}},
	} {
		sizes := c.want[0].Sizes
		wantModels(t, checkModels(t, c.theory, sizes), c.want, c)
		if sizes[0] != 1 {
			checkModels(t, c.theory, slices.Repeat([]int{1}, len(sizes)))
		}
	}
}

func TestModelsOfWrongSizes(t *testing.T) {
	for _, theory := range smallTheories(302, 60) {
		for _, sizes := range [][]int{{1, 1, 1}, {2, 2, 2}, {3, 1, 2}} {
			for _, wrong := range wrongSizes(sizes[:theory.Over.Sorts]) {
				for _, other := range []impl.Theory{theory, {Over: theory.Over}} {
					wantModels(t, impl.ModelsOf(other, wrong), nil, other, wrong)
				}
			}
		}
	}
}

func TestModelsOfNoTheories(t *testing.T) {
	none := func(theory impl.Theory, sizes []int) {
		t.Helper()
		wantModels(t, impl.ModelsOf(theory, sizes), nil, theory, sizes)
	}
	for _, bad := range badTheories() {
		for _, sizes := range [][]int{nil, {1}, {2}, {1, 1}, {2, 2}, {1, 1, 1}, {2, 2, 2}, {1, 1, 1, 1}, slices.Repeat([]int{1}, min(max(bad.Over.Sorts, 0), 1000))} {
			none(bad, sizes)
		}
	}
	for _, s := range []impl.Sig{sigOf("1:"), sigOf("1:000"), sigOf("2:01"), sigOf("3:")} {
		for _, axioms := range badAxioms(s) {
			for _, size := range []int{1, 2} {
				none(impl.Theory{Over: s, Axioms: axioms}, slices.Repeat([]int{size}, s.Sorts))
			}
		}
	}
	none(impl.Theory{}, nil)
	none(impl.Theory{}, []int{})
	none(impl.Theory{Over: impl.Sig{Sorts: math.MaxInt}}, []int{1})
	// Six axioms are not too many.
	if list := impl.ModelsOf(known("1:", "0 x0=x0", "0 x0=x0", "0 x0=x0", "0 x0=x0", "0 x0=x0", "00 x0=x0"), []int{2}); len(list) != 1 {
		t.Fatal(list)
	}
}

// As many axioms as there may be are asked, each of them.
func TestEachAxiomIsAsked(t *testing.T) {
	for k := range 6 {
		axioms := slices.Repeat([]string{"0 f0(f0(x0))=f0(f0(x0))"}, 6)
		axioms[k] = "0 f0(x0)=x0"
		theory := known("1:00,0", axioms...)
		want := []impl.Model{modelOf([]int{2}, []int{0, 1}, []int{0}), modelOf([]int{2}, []int{0, 1}, []int{1})}
		wantModels(t, checkModels(t, theory, []int{2}), want, k)
		wantModels(t, checkKinds(t, theory, []int{2}), want[:1], k)
		if got, ok := checkRefuted(t, theory, eqOf(theory.Over, " f0(f1)=f1")); ok {
			t.Fatal(k, got)
		}
	}
	// Each of six leaves out others.
	axioms := []string{" f0(f0(f1))=f1", " f0(f2)=f2", " f2=f3", " f4=f3", " f5=f4", "0 f0(x0)=f0(f4)"}
	for many := range 7 {
		list := checkModels(t, known("1:00,0,0,0,0,0", axioms[:many]...), []int{2})
		if want := []int{128, 96, 48, 24, 12, 6, 2}[many]; len(list) != want {
			t.Fatal(many, len(list), want)
		}
	}
}
