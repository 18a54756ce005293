package tests

import (
	"math"
	"math/rand"
	"testing"

	"loop.example/theorymodules/impl"
)

// checkStep compares a step with what the document tells of it; if it can be done, the sort stays, and with Back turned it leads back.
func checkStep(t *testing.T, theory impl.Theory, vars []int, u []int, p impl.Step) {
	t.Helper()
	after, ok := impl.StepDo(theory, vars, u, p)
	want, wantOk := stepByHand(theory, vars, u, p)
	wantRow(t, after, ok, want, wantOk, theory, vars, u, p)
	if !ok {
		return
	}
	if impl.TermSort(theory.Over, vars, after) != impl.TermSort(theory.Over, vars, u) {
		t.Fatal("the sort does not stay", theory, vars, u, p, after)
	}
	p.Back = !p.Back
	back, ok := impl.StepDo(theory, vars, after, p)
	wantRow(t, back, ok, u, true, "back", theory, vars, u, p, after)
}

func TestP4StepsTurnBack(t *testing.T) {
	r := rand.New(rand.NewSource(22))
	done := 0
	for i, w := range worlds() {
		list := w.pool(int64(i+1200), 30)
		for _, u := range list {
			for range 8 {
				p, _, ok := w.anyStep(r, u, list)
				if !ok {
					continue
				}
				done++
				checkStep(t, w.t, w.vars, u, p)
				checkStep(t, w.t, w.vars, list[r.Intn(len(list))], p)
				checkChanged(t, r, w, u, p, list)
			}
		}
	}
	if done < 4000 {
		t.Fatal("few steps", done)
	}
}

// checkChanged checks steps that differ in one thing from one that can be done.
func checkChanged(t *testing.T, r *rand.Rand, w world, u []int, p impl.Step, list [][]int) {
	t.Helper()
	for _, at := range []int{math.MinInt, -1, p.At - 1, p.At + 1, len(u), math.MaxInt} {
		q := p
		q.At = at
		checkStep(t, w.t, w.vars, u, q)
	}
	for _, axiom := range []int{math.MinInt, -1, p.Axiom - 1, p.Axiom + 1, len(w.t.Axioms), math.MaxInt} {
		q := p
		q.Axiom = axiom
		checkStep(t, w.t, w.vars, u, q)
	}
	q := p
	q.Back = !p.Back
	checkStep(t, w.t, w.vars, u, q)
	q = p
	q.Terms = append(p.Terms[:len(p.Terms):len(p.Terms)], list[0])
	checkStep(t, w.t, w.vars, u, q)
	for i := range p.Terms {
		q.Terms = p.Terms[:i]
		checkStep(t, w.t, w.vars, u, q)
		q.Terms = append([][]int{}, p.Terms...)
		q.Terms[i] = anyTerm(r, list)
		checkStep(t, w.t, w.vars, u, q)
	}
}

// stepCase is a term of a world, a step, and the text of the term after it, or none if it cannot be done.
type stepCase struct {
	u    string
	p    impl.Step
	want string
}

func checkSteps(t *testing.T, w world, list []stepCase) {
	t.Helper()
	for _, c := range list {
		var want []int
		if c.want != "" {
			want = w.term(c.want)
		}
		after, ok := impl.StepDo(w.t, w.vars, w.term(c.u), c.p)
		wantRow(t, after, ok, want, c.want != "", c)
		checkStep(t, w.t, w.vars, w.term(c.u), c.p)
	}
}

// stepAt returns a step.
func stepAt(axiom int, back bool, at int, terms ...[]int) impl.Step {
	return impl.Step{Axiom: axiom, Back: back, At: at, Terms: terms}
}

func TestStepsOfGroups(t *testing.T) {
	x0, x1, one := []int{100}, []int{101}, []int{1}
	checkSteps(t, group(0, 0), []stepCase{
		{"f0(f1,f2(x0))", stepAt(1, false, 0, []int{2, 100}), "f2(x0)"},
		{"f2(f0(f1,x1))", stepAt(1, false, 1, x1), "f2(x1)"},
		{"f0(f0(x0,x1),f1)", stepAt(0, false, 0, x0, x1, one), "f0(x0,f0(x1,f1))"},
		{"f0(x0,f0(x1,f1))", stepAt(0, true, 0, x0, x1, one), "f0(f0(x0,x1),f1)"},
		{"f0(x0,f0(f0(f1,f1),x0))", stepAt(0, false, 2, one, one, x0), "f0(x0,f0(f1,f0(f1,x0)))"},
		{"f0(x0,f0(f2(x1),x1))", stepAt(2, false, 2, x1), "f0(x0,f1)"},
		// An axiom with a letter alone on one side, each way.
		{"x1", stepAt(1, true, 0, x1), "f0(f1,x1)"},
		{"f0(x0,f2(x1))", stepAt(1, true, 2, []int{2, 101}), "f0(x0,f0(f1,f2(x1)))"},
		{"f1", stepAt(1, true, 0, one), "f0(f1,f1)"},
		// Letters that stand on one side alone: any term will do where they are put.
		{"f1", stepAt(2, true, 0, x0), "f0(f2(x0),x0)"},
		{"f1", stepAt(2, true, 0, []int{0, 100, 101}), "f0(f2(f0(x0,x1)),f0(x0,x1))"},
		{"f2(f1)", stepAt(2, true, 1, one), "f2(f0(f2(f1),f1))"},
		// Letters that stand twice.
		{"f0(f2(x0),x1)", stepAt(2, false, 0, x0), ""},
		{"f0(f2(x0),x1)", stepAt(2, false, 0, x1), ""},
		{"f0(f2(f2(x0)),f2(x0))", stepAt(2, false, 0, []int{2, 100}), "f1"},
		// A part that is not the side.
		{"f0(f1,f2(x0))", stepAt(1, false, 0, x0), ""},
		{"f0(f1,f2(x0))", stepAt(1, false, 1, x0), ""},
		{"f0(f1,f2(x0))", stepAt(1, true, 0, []int{2, 100}), ""},
		{"f0(f1,f2(x0))", stepAt(0, false, 0, one, one, []int{2, 100}), ""},
		{"x0", stepAt(1, true, 0, x1), ""},
		// Places that there are not.
		{"f0(f1,x0)", stepAt(1, false, -1, x0), ""},
		{"f0(f1,x0)", stepAt(1, false, 3, x0), ""},
		{"x0", stepAt(1, true, 1, x0), ""},
		{"x0", stepAt(1, true, math.MaxInt, x0), ""},
		{"x0", stepAt(1, true, math.MinInt, x0), ""},
		// Numbers of no axiom.
		{"f0(f1,x0)", stepAt(-1, false, 0, x0), ""},
		{"x0", stepAt(3, true, 0, x0), ""},
		{"x0", stepAt(math.MaxInt, true, 0, x0), ""},
		{"x0", stepAt(math.MinInt, true, 0, x0), ""},
		// Too few and too many terms, and such that are none.
		{"f0(f1,x0)", stepAt(1, false, 0), ""},
		{"f0(f1,x0)", stepAt(1, false, 0, x0, x0), ""},
		{"f1", stepAt(2, true, 0), ""},
		{"f1", stepAt(2, true, 0, x0, x0), ""},
		{"f1", stepAt(2, true, 0, []int{102}), ""},
		{"f1", stepAt(2, true, 0, nil), ""},
		{"f1", stepAt(2, true, 0, []int{2}), ""},
		{"f1", stepAt(2, true, 0, []int{1, 1}), ""},
		{"f0(f1,x0)", stepAt(1, false, 0, []int{}), ""},
		// Results of exactly 30 numbers, and of more.
		{"f1", stepAt(2, true, 0, chain(14, 1)), "f0(f2(" + textOfChain(14) + ")," + textOfChain(14) + ")"},
		{"f1", stepAt(2, true, 0, chain(15, 1)), ""},
		{textOfChain(28), stepAt(1, true, 0, chain(28, 1)), "f0(f1," + textOfChain(28) + ")"},
		{textOfChain(29), stepAt(1, true, 0, chain(29, 1)), ""},
		{textOfChain(28), stepAt(1, true, 27, one), "f2(f2(f2(f2(f2(f2(f2(f2(f2(f2(f2(f2(f2(f2(f2(f2(f2(f2(f2(f2(f2(f2(f2(f2(f2(f2(f2(f0(f1,f1))))))))))))))))))))))))))))"},
		{textOfChain(29), stepAt(1, true, 28, one), ""},
	})
}

func textOfChain(numbers int) string {
	whole, _ := treeByHand(sigOf("1:000,0,00"), nil, chain(numbers, 1))
	return whole.text()
}

func TestStepsWithLettersOnOneSide(t *testing.T) {
	x0, x1, one := []int{100}, []int{101}, []int{1}
	w := worldOf("1:000,0,00", []int{0, 0}, "00 f0(x0,x1)=x0", "0 x0=f2(x0)", "00 x0=x1", "000 f2(x1)=x1", "0 x0=f0(x0,x0)", "00 f2(x1)=f0(x0,x0)")
	checkSteps(t, w, []stepCase{
		{"f0(x1,f1)", stepAt(0, false, 0, x1, one), "x1"},
		{"f0(x1,f1)", stepAt(0, false, 0, x1, x1), ""},
		{"x1", stepAt(0, true, 0, x1, one), "f0(x1,f1)"},
		{"x1", stepAt(0, true, 0, x1, []int{2, 100}), "f0(x1,f2(x0))"},
		{"x1", stepAt(0, true, 0, x1), ""},
		{"x1", stepAt(0, true, 0, x1, nil), ""},
		{"f2(x0)", stepAt(0, true, 1, x0, x1), "f2(f0(x0,x1))"},
		{"f2(x0)", stepAt(1, false, 0, []int{2, 100}), "f2(f2(x0))"},
		{"f2(x0)", stepAt(1, true, 0, x0), "x0"},
		{"f0(f2(x0),x1)", stepAt(1, true, 1, x0), "f0(x0,x1)"},
		{"f2(x0)", stepAt(1, true, 1, x0), ""},
		{textOfChain(29), stepAt(1, false, 0, chain(29, 1)), textOfChain(30)},
		{textOfChain(30), stepAt(1, false, 0, chain(30, 1)), ""},
		{textOfChain(30), stepAt(1, false, 29, one), ""},
		{textOfChain(30), stepAt(1, true, 0, chain(29, 1)), textOfChain(29)},
		// A letter alone on both sides.
		{"x0", stepAt(2, false, 0, x0, one), "f1"},
		{"x0", stepAt(2, false, 0, x1, x0), ""},
		{"x0", stepAt(2, true, 0, x1, x0), "x1"},
		{"f0(f1,f2(x0))", stepAt(2, false, 2, []int{2, 100}, []int{0, 1, 1}), "f0(f1,f0(f1,f1))"},
		{"f1", stepAt(2, false, 0, one, chain(30, 1)), textOfChain(30)},
		{"f1", stepAt(2, false, 0, one, chain(31, 1)), ""},
		{"f2(f1)", stepAt(2, false, 1, one, chain(30, 1)), ""},
		{"f2(f1)", stepAt(2, false, 1, one, chain(29, 1)), textOfChain(30)},
		// Letters that stand on no side have terms of their sort, too.
		{"f2(f1)", stepAt(3, false, 0, x0, one, x1), "f1"},
		{"f2(f1)", stepAt(3, false, 0, x1, one, chain(30, 1)), "f1"},
		{"f2(f1)", stepAt(3, false, 0, x0, one, chain(31, 1)), ""},
		{"f2(f1)", stepAt(3, false, 0, x0, one), ""},
		{"f2(f1)", stepAt(3, false, 0, x0, one, nil), ""},
		{"f2(f1)", stepAt(3, false, 0, []int{102}, one, x0), ""},
		{"f1", stepAt(3, true, 0, x0, one, x1), "f2(f1)"},
		{"f1", stepAt(3, true, 0, x0, one, []int{2}), ""},
		// Letters that stand twice, on the side that is put there.
		{"f2(x0)", stepAt(4, false, 1, x0), "f2(f0(x0,x0))"},
		{"f2(f1)", stepAt(4, false, 0, []int{2, 1}), "f0(f2(f1),f2(f1))"},
		{"f2(f0(x0,x0))", stepAt(4, true, 1, x0), "f2(x0)"},
		{"f2(f0(x0,x1))", stepAt(4, true, 1, x0), ""},
		{"f2(f0(x0,x1))", stepAt(4, true, 1, x1), ""},
		{textOfChain(14), stepAt(4, false, 0, chain(14, 1)), "f0(" + textOfChain(14) + "," + textOfChain(14) + ")"},
		{textOfChain(15), stepAt(4, false, 0, chain(15, 1)), ""},
		{textOfChain(15), stepAt(4, false, 1, chain(14, 1)), "f2(f0(" + textOfChain(14) + "," + textOfChain(14) + "))"},
		{textOfChain(16), stepAt(4, false, 2, chain(14, 1)), ""},
		{"f2(x1)", stepAt(5, false, 0, []int{2, 1}, x1), "f0(f2(f1),f2(f1))"},
		{"f0(f1,f1)", stepAt(5, true, 0, one, chain(29, 1)), textOfChain(30)},
		{"f0(f1,f1)", stepAt(5, true, 0, one, chain(30, 1)), ""},
	})
}

func TestStepsOfTwoSorts(t *testing.T) {
	x0, x1, three, four := []int{100}, []int{101}, []int{3}, []int{4}
	w := worldOf("2:010,01,10,0,1", []int{1, 0}, "01 f0(x0,x1)=x0", "1 f1(f2(x0))=x0", "10 f1(x1)=x0", "10 f3=x1")
	checkSteps(t, w, []stepCase{
		{"f0(x1,x0)", stepAt(0, false, 0, x1, x0), "x1"},
		{"f1(f0(f3,x0))", stepAt(0, false, 1, three, x0), "f1(f3)"},
		{"x1", stepAt(0, true, 0, x1, four), "f0(x1,f4)"},
		{"x1", stepAt(0, true, 0, x1, three), ""},
		{"x0", stepAt(0, true, 0, x0, four), ""},
		{"x0", stepAt(1, true, 0, x0), "f1(f2(x0))"},
		{"x1", stepAt(1, true, 0, x1), ""},
		{"f0(x1,f4)", stepAt(1, true, 2, four), "f0(x1,f1(f2(f4)))"},
		{"f0(x1,f4)", stepAt(1, true, 1, x1), ""},
		{"f1(f3)", stepAt(2, false, 0, x0, three), "x0"},
		{"f1(f3)", stepAt(2, false, 0, three, three), ""},
		{"f1(f3)", stepAt(2, false, 0, three, x0), ""},
		{"f2(x0)", stepAt(2, true, 1, x0, x1), "f2(f1(x1))"},
		{"f2(x0)", stepAt(2, true, 1, x0, x0), ""},
		// Another sort at a letter that stands on no side.
		{"f3", stepAt(3, false, 0, x0, x1), "x1"},
		{"f3", stepAt(3, false, 0, three, x1), ""},
		{"x1", stepAt(3, true, 0, four, x1), "f3"},
		{"x1", stepAt(3, true, 0, x1, x1), ""},
	})
}

func TestStepsOfWhatIsNotOk(t *testing.T) {
	w := group(0, 0)
	u, p := []int{0, 1, 100}, stepAt(1, false, 0, []int{100})
	for _, bad := range badTheories() {
		after, ok := impl.StepDo(bad, w.vars, u, p)
		wantRow(t, after, ok, nil, false, bad)
		after, ok = impl.StepDo(bad, nil, []int{0}, impl.Step{})
		wantRow(t, after, ok, nil, false, bad)
	}
	for _, bad := range badVars(1) {
		after, ok := impl.StepDo(w.t, bad, []int{0, 1, 1}, stepAt(1, false, 0, []int{1}))
		wantRow(t, after, ok, nil, false, bad)
	}
	for _, row := range [][]int{nil, {}, {0}, {0, 1}, {0, 1, 100, 100}, {0, 1, 102}, {102}, {-1}, {3}, {2}, chain(31, 1), chain(1000, 100)} {
		for at := range 3 {
			for _, p := range []impl.Step{stepAt(1, false, at, []int{100}), stepAt(1, true, at, []int{100}), stepAt(1, true, at, []int{102}), stepAt(1, true, at, []int{1})} {
				after, ok := impl.StepDo(w.t, w.vars, row, p)
				wantRow(t, after, ok, nil, false, row, p)
			}
		}
	}
	none := worldOf("1:000,0,00", []int{0})
	for _, axiom := range []int{-1, 0, 1} {
		after, ok := impl.StepDo(none.t, none.vars, []int{100}, stepAt(axiom, false, 0, []int{100}))
		wantRow(t, after, ok, nil, false, "no axioms", axiom)
		after, ok = impl.StepDo(none.t, none.vars, []int{100}, stepAt(axiom, false, 0))
		wantRow(t, after, ok, nil, false, "no axioms", axiom)
	}
}
