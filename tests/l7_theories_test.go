package tests

import (
	"math/rand"
	"slices"
	"testing"

	"loop.example/theorymodules/impl"
)

// sumTheories returns theories over both sides of a fork, by chance, some of whose axioms come from the same equations over the third signature.
func (x fork) sumTheories(r *rand.Rand) (impl.Theory, impl.Theory) {
	a, b := anyTheory(r, setting{s: x.a}, r.Intn(4)), anyTheory(r, setting{s: x.b}, r.Intn(4))
	for _, e := range anyTheory(r, setting{s: x.c}, r.Intn(3)).Axioms {
		left, _ := mapEqByHand(road{x.c, x.a, x.f}, e)
		right, _ := mapEqByHand(road{x.c, x.b, x.g}, e)
		a.Axioms, b.Axioms = append(a.Axioms, left), append(b.Axioms, right)
	}
	for _, list := range [][]impl.Eq{a.Axioms, b.Axioms} {
		r.Shuffle(len(list), func(i, j int) { list[i], list[j] = list[j], list[i] })
	}
	return a, b
}

func TestP26ModelsOfBothAreModelsOfTheSum(t *testing.T) {
	r := rand.New(rand.NewSource(140))
	seen, fewer := map[[2]bool]int{}, 0
	for _, x := range goodForks(141, 600) {
		a, b := x.sumTheories(r)
		theory, ok := impl.SumTheory(x.c, a, b, x.f, x.g)
		checkSumTheory(t, x, a, b)
		if !ok {
			continue
		}
		if !impl.TheoryOk(theory) {
			t.Fatal("no theory", x, a, b, theory)
		}
		if len(theory.Axioms) < len(a.Axioms)+len(b.Axioms) {
			fewer++
		}
		for _, whole := range manyModels(r, theory.Over, 8) {
			seen[x.checkModelOfBoth(t, a, b, theory, whole)]++
		}
	}
	wantSeen(t, seen, 4, 200)
	if fewer < 50 {
		t.Fatal(fewer)
	}
}

// checkModelOfBoth looks whether a model of the sum is a model of its axioms exactly if it becomes models of the axioms of both theories, and returns of which of both it becomes one.
func (x fork) checkModelOfBoth(t *testing.T, a, b, theory impl.Theory, whole impl.Model) [2]bool {
	t.Helper()
	_, left, right, _ := x.overByHand()
	m := impl.ModelBack(x.a, theory.Over, left, whole)
	n := impl.ModelBack(x.b, theory.Over, right, whole)
	first, second := impl.IsModel(a, m), impl.IsModel(b, n)
	if impl.IsModel(theory, whole) != (first && second) {
		t.Fatal("a model of one alone", x, a, b, theory, whole, first, second)
	}
	return [2]bool{first, second}
}

// The models of the axioms of both that are the same model of the third signature are put together to models of the axioms of the sum.
func TestModelsOfBothPutTogether(t *testing.T) {
	r := rand.New(rand.NewSource(142))
	put := 0
	for _, x := range goodForks(143, 200) {
		a, b := x.sumTheories(r)
		theory, ok := impl.SumTheory(x.c, a, b, x.f, x.g)
		if !ok {
			continue
		}
		for _, m := range modelsFor(r, a, 4) {
			for _, n := range modelsFor(r, b, 4) {
				if whole, ok := impl.SumModel(x.c, x.a, x.b, x.f, x.g, m, n); ok {
					put++
					if !impl.IsModel(theory, whole) {
						t.Fatal(x, theory, m, n, whole)
					}
				}
			}
		}
	}
	if put < 300 {
		t.Fatal(put)
	}
}

// theoryOver reads a theory that a test needs.
func theoryOver(s impl.Sig, axioms ...string) impl.Theory {
	theory := impl.Theory{Over: s}
	for _, text := range axioms {
		theory.Axioms = append(theory.Axioms, eqOf(s, text))
	}
	return theory
}

func TestTheoriesOfSums(t *testing.T) {
	common := forkOf("1:0", "1:000,0", "2:0,01", mapOf([]int{0}, 1), mapOf([]int{0}, 0))
	bare := forkOf("1:", "1:00", "1:00", mapOf([]int{0}), mapOf([]int{0}))
	same := forkOf("1:00,0", "1:00,0", "1:0,00", mapOf([]int{0}, 0, 1), mapOf([]int{0}, 1, 0))
	oneSide := forkOf("2:01,10", "2:01,10", "1:00", mapOf([]int{0, 1}, 0, 1), mapOf([]int{0, 0}, 0, 0))
	oneOp := forkOf("1:0,0,00", "1:0,0,00", "1:00,0", mapOf([]int{0}, 0, 1, 2), mapOf([]int{0}, 1, 1, 0))
	for _, c := range []struct {
		x    fork
		a, b []string
		want []string
	}{
		// The order of the axioms: those of the first one, and then those of the second one.
		{common, []string{"0 f0(x0,f1)=x0", "00 f0(x0,x1)=f0(x1,x0)"}, []string{" f1(f0)=f1(f0)", "01 f1(x0)=x1"}, []string{"0 f0(x0,f1)=x0", "00 f0(x0,x1)=f0(x1,x0)", " f2(f1)=f2(f1)", "01 f2(x0)=x1"}},
		{common, []string{"00 f0(x0,x1)=f0(x1,x0)", "0 f0(x0,f1)=x0"}, []string{"01 f1(x0)=x1", " f1(f0)=f1(f0)"}, []string{"00 f0(x0,x1)=f0(x1,x0)", "0 f0(x0,f1)=x0", "01 f2(x0)=x1", " f2(f1)=f2(f1)"}},
		// Theories without axioms: both, and each of them.
		{common, nil, nil, nil},
		{common, []string{"0 x0=f1"}, nil, []string{"0 x0=f1"}},
		{common, nil, []string{"0 x0=f0"}, []string{"0 x0=f1"}},
		{bare, nil, []string{"0 x0=f0(x0)"}, []string{"0 x0=f1(x0)"}},
		// Axioms of the first one that are the same, of the second one, and of both.
		{common, []string{"0 x0=f1", "0 x0=f1"}, nil, []string{"0 x0=f1"}},
		{common, nil, []string{"0 x0=f0", "0 f0=x0", "0 x0=f0"}, []string{"0 x0=f1", "0 f1=x0"}},
		{common, []string{"0 f1=x0", "0 x0=f1"}, []string{"01 f1(x0)=x1", "0 x0=f0"}, []string{"0 f1=x0", "0 x0=f1", "01 f2(x0)=x1"}},
		{same, []string{"0 f0(x0)=x0", " f1=f0(f1)"}, []string{" f0=f1(f0)", "0 f1(x0)=x0"}, []string{"0 f0(x0)=x0", " f1=f0(f1)"}},
		{same, []string{"0 f0(x0)=x0"}, []string{" f0=f1(f0)", "0 f1(x0)=x0", " f0=f1(f0)"}, []string{"0 f0(x0)=x0", " f1=f0(f1)"}},
		// Operations that are not common: the same texts are two axioms.
		{bare, []string{"0 f0(x0)=x0"}, []string{"0 f0(x0)=x0"}, []string{"0 f0(x0)=x0", "0 f1(x0)=x0"}},
		// The same but for the letters, and but for the sides.
		{bare, []string{"0 x0=x0", "00 x0=x0", "00 x1=x1"}, []string{"00 x0=x0", "000 x0=x0", "0 x0=x0"}, []string{"0 x0=x0", "00 x0=x0", "00 x1=x1", "000 x0=x0"}},
		{bare, []string{"00 x0=x1", "00 x1=x0"}, []string{"00 x1=x0", "00 x0=x0"}, []string{"00 x0=x1", "00 x1=x0", "00 x0=x0"}},
		{bare, []string{"0 f0(x0)=x0", "0 x0=f0(x0)"}, []string{"0 x0=x0"}, []string{"0 f0(x0)=x0", "0 x0=f0(x0)", "0 x0=x0"}},
		// Two sorts, and two operations, that become one: axioms of one theory that are different become the same.
		{oneSide, []string{"0 f1(f0(x0))=x0", "1 f0(f1(x0))=x0"}, nil, []string{"0 f0(f0(x0))=x0"}},
		{oneSide, []string{"01 x0=x0", "10 x0=x0", "1 x0=x0"}, []string{"00 x0=x0", "0 f0(x0)=x0"}, []string{"00 x0=x0", "0 x0=x0", "0 f0(x0)=x0"}},
		{oneSide.swapped(), []string{"0 f0(f0(x0))=x0"}, []string{"0 f1(f0(x0))=x0", "1 f0(f1(x0))=x0", "0 f1(f0(x0))=f1(f0(x0))"}, []string{"0 f0(f0(x0))=x0", "0 f0(f0(x0))=f0(f0(x0))"}},
		{oneOp, []string{" f0=f2(f0)", " f1=f2(f1)", " f0=f2(f1)"}, nil, []string{" f0=f1(f0)"}},
		{oneOp, []string{" f0=f1"}, []string{" f1=f1", " f1=f0(f1)"}, []string{" f0=f0", " f0=f1(f0)"}},
		// As many axioms as are allowed: of one theory, of both, and twelve of which six are the same.
		{bare, sixEqs(0), nil, sixEqs(0)},
		{bare, nil, sixEqs(0), sixEqs(1)},
		{bare, sixEqs(0)[:3], sixEqs(0)[:3], slices.Concat(sixEqs(0)[:3], sixEqs(1)[:3])},
		{bare, slices.Concat(sixEqs(0)[:5], []string{"0 x0=x0"}), []string{"0 x0=x0", "0 x0=x0"}, slices.Concat(sixEqs(0)[:5], []string{"0 x0=x0"})},
		{bare, slices.Concat(sixEqs(0)[:5], sixEqs(0)[:1]), sixEqs(0)[:1], slices.Concat(sixEqs(0)[:5], sixEqs(1)[:1])},
		{same, sixEqs(0), sixEqs(1), sixEqs(0)},
		{same, sixEqs(0)[:5], sixEqs(1), sixEqs(0)},
	} {
		a, b := theoryOver(c.x.a, c.a...), theoryOver(c.x.b, c.b...)
		sum, _, _, _ := c.x.overByHand()
		wantTheory(t, c.x, a, b, theoryOver(sum, c.want...), true)
		checkSumTheory(t, c.x, a, b)
	}
}

// sixEqs returns six equations about an operation of one value, told by its digit.
func sixEqs(op int) []string {
	f := "f" + string(rune('0'+op))
	return []string{
		"0 " + f + "(x0)=x0", "0 x0=" + f + "(x0)", "0 " + f + "(" + f + "(x0))=x0",
		"0 x0=" + f + "(" + f + "(x0))", "0 " + f + "(x0)=" + f + "(x0)", "00 " + f + "(x0)=" + f + "(x1)",
	}
}

// noSumTheory fails if there is a theory of a sum.
func noSumTheory(t *testing.T, x fork, a, b impl.Theory) {
	t.Helper()
	wantTheory(t, x, a, b, impl.Theory{}, false)
}

func TestTheoriesOfSumsWithTooManyAxioms(t *testing.T) {
	bare := forkOf("1:", "1:00", "1:00", mapOf([]int{0}), mapOf([]int{0}))
	same := forkOf("1:00,0", "1:00,0", "1:0,00", mapOf([]int{0}, 0, 1), mapOf([]int{0}, 1, 0))
	oneOp := forkOf("1:0,0", "1:0,0", "1:0", mapOf([]int{0}, 0, 1), mapOf([]int{0}, 0, 0))
	six := sixEqs(0)
	for _, c := range []struct {
		x    fork
		a, b []string
	}{
		// One more than there may be, from one more of each side on.
		{bare, six, []string{"0 f0(x0)=x0"}},
		{bare, six, []string{"0 x0=x0"}},
		{bare, six[:1], six},
		{bare, six[:3], six[:4]},
		{bare, six[:4], six[:3]},
		{same, six, []string{" f0=f0"}},
		{same, six[:5], slices.Concat(sixEqs(1)[1:6], []string{" f0=f0"})},
		{bare, six, six},
		{bare, six, slices.Concat(six[:1], six[:1], six[:1], six[:1])},
		{oneOp, []string{" f0=f0", "0 x0=f0", "0 f1=x0", "0 x0=x0", "00 x0=x1", "00 x1=x0"}, []string{"000 x0=x0"}},
	} {
		a, b := theoryOver(c.x.a, c.a...), theoryOver(c.x.b, c.b...)
		noSumTheory(t, c.x, a, b)
		checkSumTheory(t, c.x, a, b)
	}
}

func TestTheoriesOfSumsOfWhatIsNotValid(t *testing.T) {
	for _, x := range knownForks() {
		a, b := impl.Theory{Over: x.a, Axioms: []impl.Eq{{Vars: []int{0}, Left: []int{100}, Right: []int{100}}}}, impl.Theory{Over: x.b}
		if _, ok := checkSumTheory(t, x, a, b); !ok {
			t.Fatal("none", x)
		}
		for _, list := range badAxioms(x.a) {
			noSumTheory(t, x, withAxioms(a, list...), b)
			noSumTheory(t, x, withAxioms(a, list...), withAxioms(b, list...))
		}
		for _, list := range badAxioms(x.b) {
			noSumTheory(t, x, a, withAxioms(b, list...))
		}
		for _, bad := range badForks(x) {
			noSumTheory(t, bad, impl.Theory{Over: bad.a}, impl.Theory{Over: bad.b})
			noSumTheory(t, bad, impl.Theory{Over: bad.a, Axioms: a.Axioms}, impl.Theory{Over: bad.b, Axioms: a.Axioms})
		}
		for _, bad := range badTheories() {
			noSumTheory(t, x, bad, b)
			noSumTheory(t, x, a, bad)
			noSumTheory(t, x, bad, bad)
		}
		noSumTheory(t, x, impl.Theory{}, b)
		noSumTheory(t, x, a, impl.Theory{})
	}
	for _, x := range manyForks(144, 1500) {
		if _, _, _, ok := x.overByHand(); !ok {
			noSumTheory(t, x, impl.Theory{Over: x.a}, impl.Theory{Over: x.b})
		}
	}
}

// badAxioms returns lists of axioms that no theory over a signature has, each for one reason alone; those that are too many are all the same.
func badAxioms(s impl.Sig) [][]impl.Eq {
	good := impl.Eq{Vars: []int{0}, Left: []int{100}, Right: []int{100}}
	list := [][]impl.Eq{slices.Repeat([]impl.Eq{good}, 7), slices.Repeat([]impl.Eq{good}, 100), {{}}, {good, {}}, {{}, good}}
	for _, e := range []impl.Eq{
		{Vars: []int{0}, Left: []int{100}},
		{Vars: []int{0}, Left: []int{100}, Right: []int{101}},
		{Vars: []int{0}, Left: []int{100, 100}, Right: []int{100, 100}},
		{Vars: []int{0}, Left: []int{6}, Right: []int{6}},
		{Vars: []int{0}, Left: []int{-1}, Right: []int{-1}},
		{Vars: []int{0}, Left: []int{99}, Right: []int{99}},
		{Vars: []int{0}, Left: []int{1 << 62}, Right: []int{1 << 62}},
		{Vars: []int{s.Sorts}, Left: []int{100}, Right: []int{100}},
		{Vars: []int{0, -1}, Left: []int{100}, Right: []int{100}},
		{Vars: []int{0, 0, 0, 0, 0}, Left: []int{100}, Right: []int{100}},
		{Left: make([]int, 31), Right: make([]int, 31)},
	} {
		list = append(list, []impl.Eq{e}, []impl.Eq{good, e}, []impl.Eq{e, good})
	}
	if s.Sorts > 1 {
		list = append(list, []impl.Eq{{Vars: []int{0, 1}, Left: []int{100}, Right: []int{101}}})
	}
	return list
}
