package tests

import (
	"math/rand"
	"slices"
	"testing"

	"loop.example/theorymodules/impl"
)

// searchEqs returns equations over the signature of a theory, by chance: some with any sides, and some of which the sides are the same or come of each other by steps.
func searchEqs(r *rand.Rand, theory impl.Theory, most int) []impl.Eq {
	s := theory.Over
	list := append(aloneEqs(s), modelEqs(r, setting{s, randomVars(r, s.Sorts)}, most)...)
	w := world{setting{s, randomVars(r, s.Sorts)}, theory}
	pool := w.pool(r.Int63(), 8)
	for range most {
		if len(pool) > 0 {
			_, e := w.walk(r, pool[r.Intn(len(pool))], r.Intn(4), pool)
			list = append(list, e)
		}
	}
	return list
}

// checkFirstRefuted looks whether the model that is told is one of the axioms, with sizes of 1 and 2, in which an equation fails, while it holds in all such models before it, and in all of them if none is told; and whether no proof of the equation is found then. It reports whether one is told.
func checkFirstRefuted(t *testing.T, theory impl.Theory, e impl.Eq, models []impl.Model) bool {
	t.Helper()
	want, wantOk := failsAmong(theory.Over, e, models)
	got, ok := impl.RefuteBy(theory, e)
	wantModel(t, got, ok, want, wantOk, theory, e)
	if !ok {
		return false
	}
	if !impl.IsModel(theory, got) || impl.Holds(theory.Over, got, e) || slices.Max(got.Sizes) > 2 {
		t.Fatal("no model, or it holds", theory, e, got)
	}
	if steps, proved := impl.ProofFind(theory, e); proved {
		t.Fatal("proved", theory, e, got, steps)
	}
	return true
}

func TestP35WhatFailsIsNotProved(t *testing.T) {
	seen := map[bool]int{}
	for i, theory := range append(smallTheories(330, 100), worldTheories()...) {
		r := rand.New(rand.NewSource(int64(i + 5200)))
		models := smallOnes(theory)
		for _, e := range searchEqs(r, theory, 8) {
			seen[checkFirstRefuted(t, theory, e, models)]++
			seen[checkFirstRefuted(t, theory, turned(e), models)]++
		}
	}
	wantSeen(t, seen, 2, 800)
}

// worldTheories returns the theories of all worlds: of some of them there are too many models to go through.
func worldTheories() []impl.Theory {
	var list []impl.Theory
	for _, w := range worlds() {
		list = append(list, w.t)
	}
	return list
}

// What is proved, and the axioms themselves, are not refuted; nor is a term and itself.
func TestP35WhatIsProvedDoesNotFail(t *testing.T) {
	proved := 0
	for i, theory := range append(smallTheories(331, 60), worldTheories()...) {
		r := rand.New(rand.NewSource(int64(i + 5300)))
		w := world{setting{theory.Over, randomVars(r, theory.Over.Sorts)}, theory}
		list := slices.Clone(theory.Axioms)
		pool := w.pool(r.Int63(), 8)
		for _, u := range pool {
			_, e := w.walk(r, u, 1+r.Intn(6), pool)
			list = append(list, e, impl.Eq{Vars: w.vars, Left: u, Right: u})
		}
		for _, e := range list {
			for _, e := range []impl.Eq{e, turned(e)} {
				got, ok := impl.RefuteBy(theory, e)
				wantModel(t, got, ok, impl.Model{}, false, theory, e)
				proved++
			}
		}
	}
	if proved < 500 {
		t.Fatal(proved)
	}
}

// refuteCase is a theory, an equation, and the first model of the theory in which it fails; no sizes if there is none.
type refuteCase struct {
	theory impl.Theory
	text   string
	want   impl.Model
}

// checkRefuteCases compares in which models equations fail.
func checkRefuteCases(t *testing.T, list []refuteCase) {
	t.Helper()
	for _, c := range list {
		e := eqOf(c.theory.Over, c.text)
		for _, e := range []impl.Eq{e, turned(e)} {
			got, ok := impl.RefuteBy(c.theory, e)
			wantModel(t, got, ok, c.want, len(c.want.Sizes) > 0, c)
			checkFirstRefuted(t, c.theory, e, smallOnes(c.theory))
		}
	}
}

func TestModelsInWhichEquationsFail(t *testing.T) {
	none := impl.Model{}
	assoc, turn, same := "000 f0(f0(x0,x1),x2)=f0(x0,f0(x1,x2))", "00 f0(x0,x1)=f0(x1,x0)", "0 f0(x0,x0)=x0"
	half := known("1:000", assoc, turn, same)
	checkRefuteCases(t, []refuteCase{
		{known("1:000", assoc), same, modelOf([]int{2}, []int{0, 0, 0, 0})},
		{known("1:000", assoc), turn, modelOf([]int{2}, []int{0, 0, 1, 1})},
		{known("1:000", turn), assoc, modelOf([]int{2}, []int{1, 0, 0, 0})},
		{known("1:000", same), turn, modelOf([]int{2}, []int{0, 0, 1, 1})},
		{known("1:000"), "00 f0(x0,x1)=x0", modelOf([]int{2}, []int{0, 0, 0, 0})},
		{known("1:000"), "00 f0(x0,x1)=f0(x0,x0)", modelOf([]int{2}, []int{0, 0, 0, 1})},
		{half, "00 f0(x0,x1)=x0", modelOf([]int{2}, []int{0, 0, 0, 1})},
		{half, "00 x0=x1", modelOf([]int{2}, []int{0, 0, 0, 1})},
		{half, "00 f0(x0,f0(x0,x1))=f0(x0,x1)", none},
		{half, "0 x0=x0", none},
		{group().t, "0 f0(x0,x0)=x0", modelOf([]int{2}, []int{0, 1, 1, 0}, []int{0}, []int{0, 1})},
		// It holds in all models that are gone through, though it does not follow: there are greater ones in which it fails.
		{group().t, turn, none},
		{group().t, "0 f2(x0)=x0", none},
		{known("1:00", "0 f0(f0(f0(x0)))=x0"), "0 f0(x0)=x0", none},
		{known("1:00", "0 f0(f0(x0))=x0"), "0 f0(x0)=x0", modelOf([]int{2}, []int{1, 0})},
		{known("1:", "00 x0=x1"), "00 x0=x1", none},
		{known("1:000,0,00", "00 x0=x1"), " f1=f2(f1)", none},
		{known("1:000,0,00", "00 x0=x1"), "0 f0(x0,x0)=f1", none},
		// Terms without letters.
		{known("1:0,0"), " f0=f1", modelOf([]int{2}, []int{0}, []int{1})},
		{known("1:0,0,0", " f0=f1"), " f2=f1", modelOf([]int{2}, []int{0}, []int{0}, []int{1})},
		{known("1:0,0,0", " f0=f1", " f1=f2"), " f2=f0", none},
		// Without operations, in all orders of sizes.
		{known("1:"), "00 x0=x1", modelOf([]int{2})},
		{known("1:"), "0 x0=x0", none},
		{known("2:"), "11 x0=x1", modelOf([]int{1, 2})},
		{known("2:"), "00 x0=x1", modelOf([]int{2, 1})},
		{known("2:", "11 x0=x1"), "00 x0=x1", modelOf([]int{2, 1})},
		{known("2:", "11 x0=x1"), "11 x1=x0", none},
		{known("3:"), "22 x0=x1", modelOf([]int{1, 1, 2})},
		{known("3:"), "11 x0=x1", modelOf([]int{1, 2, 1})},
		{known("3:"), "00 x0=x1", modelOf([]int{2, 1, 1})},
		{known("3:"), "012 x1=x1", none},
		// The first sizes at which it can fail.
		{known("2:10"), "11 f0(x0)=f0(x1)", modelOf([]int{2, 2}, []int{0, 1})},
		{known("2:01"), "00 f0(x0)=f0(x1)", modelOf([]int{2, 2}, []int{0, 1})},
		{known("2:01", "11 x0=x1"), "00 f0(x0)=f0(x1)", none},
		{known("2:01,10", "0 f1(f0(x0))=x0"), "1 f0(f1(x0))=x0", modelOf([]int{1, 2}, []int{0}, []int{0, 0})},
		{known("2:01,10", "0 f1(f0(x0))=x0"), "00 x0=x1", modelOf([]int{2, 2}, []int{0, 1}, []int{0, 1})},
		{known("3:012"), "0011 f0(x0,x2)=f0(x1,x3)", modelOf([]int{1, 2, 2}, []int{0, 1})},
		{known("3:012"), "001 f0(x0,x2)=f0(x1,x2)", modelOf([]int{2, 1, 2}, []int{0, 1})},
		{known("3:012", "011 f0(x0,x1)=f0(x0,x2)"), "0011 f0(x0,x2)=f0(x1,x3)", modelOf([]int{2, 1, 2}, []int{0, 1})},
		{known("3:012", "01 f0(x0,x1)=f0(x0,x1)", "22 x0=x1"), "0011 f0(x0,x2)=f0(x1,x3)", none},
	})
}

// Where there are too many models with some sizes, those behind them are gone through.
func TestSizesThatAreLeftOut(t *testing.T) {
	zeros := func(sizes []int, s string, op int, table ...int) impl.Model {
		return withTable(zeroModel(sigOf(s), sizes), op, table)
	}
	none := impl.Model{}
	checkRefuteCases(t, []refuteCase{
		// With two values of the second sort there are too many, whatever the first one has.
		{known("2:111,111,111,00"), "0 f3(x0)=x0", zeros([]int{2, 1}, "2:111,111,111,00", 3, 0, 0)},
		{known("2:111,111,111,00"), "1 f0(x0,x0)=x0", none},
		{known("2:111,111,111,00"), "11 x0=x1", none},
		// Of the first sort.
		{known("2:000,000,000,11"), "1 f3(x0)=x0", zeros([]int{1, 2}, "2:000,000,000,11", 3, 0, 0)},
		{known("2:000,000,000,11"), "0 f0(x0,x0)=x0", none},
		// Only with two values of both.
		{known("2:010,010,010,010"), "01 f0(x0,x1)=x0", zeros([]int{2, 1}, "2:010,010,010,010", 0, 0, 0)},
		{known("2:010,010,010,010"), "011 f0(x0,x1)=f0(x0,x2)", none},
		{known("2:010,010"), "011 f0(x0,x1)=f0(x0,x2)", zeros([]int{2, 2}, "2:010,010", 0, 0, 0, 0, 1)},
		// It fails with two values of the last sort, which are too many, and of the one before it.
		{known("3:120,222,222,222"), "1122 f0(x0,x2)=f0(x1,x3)", zeros([]int{2, 2, 1}, "3:120,222,222,222", 0, 0, 1)},
		{known("3:120"), "1122 f0(x0,x2)=f0(x1,x3)", zeros([]int{2, 1, 2}, "3:120", 0, 0, 1)},
		{known("3:120,111,111,111"), "1122 f0(x0,x2)=f0(x1,x3)", zeros([]int{2, 1, 2}, "3:120,111,111,111", 0, 0, 1)},
		{known("3:120,000,000,000"), "1122 f0(x0,x2)=f0(x1,x3)", none},
		{known("3:120,111,111,111,222,222"), "1122 f0(x0,x2)=f0(x1,x3)", zeros([]int{2, 1, 2}, "3:120,111,111,111,222,222", 0, 0, 1)},
		{known("3:120,111,111,111,222,222", "122 f0(x0,x1)=f0(x0,x2)"), "1122 f0(x0,x2)=f0(x1,x3)", none},
		// All but sizes of 1.
		{known("1:000,000,000"), "00 f0(x0,x1)=f1(x1,x0)", none},
		{known("1:000,000,000", "00 f0(x0,x1)=x0"), "00 x0=x1", none},
		{known("1:000,000"), "00 f0(x0,x1)=f1(x1,x0)", modelOf([]int{2}, []int{0, 0, 0, 0}, []int{0, 0, 0, 1})},
	})
	// 2048 ways, and 4096.
	many := "1:000,00,00,00,0"
	if got, ok := checkRefuted(t, known(many), eqOf(sigOf(many), "0 f1(x0)=f2(x0)")); !ok || got.Sizes[0] != 2 {
		t.Fatal(got)
	}
	if got, ok := checkRefuted(t, known(many+",0"), eqOf(sigOf(many+",0"), "0 f1(x0)=f2(x0)")); ok {
		t.Fatal(got)
	}
}

// noneRefuted fails if a model is told for what is no equation or no theory.
func noneRefuted(t *testing.T, theory impl.Theory, e impl.Eq) {
	t.Helper()
	for _, e := range []impl.Eq{e, turned(e)} {
		got, ok := impl.RefuteBy(theory, e)
		wantModel(t, got, ok, impl.Model{}, false, theory, e)
		if number := impl.Decided(theory, e); number != -1 {
			t.Fatal("decided", theory, e, number)
		}
	}
}

// What is no equation or no theory is not refuted, nor decided.
func TestWhatIsNotOkIsNotRefuted(t *testing.T) {
	for _, theory := range []impl.Theory{known("2:010,01,1,0"), known("2:010,01,1,0", "01 f0(x0,x1)=x0", "11 x0=x1")} {
		for _, bad := range badEqs() {
			noneRefuted(t, theory, bad)
		}
	}
	good := impl.Eq{Vars: []int{0, 0}, Left: []int{100}, Right: []int{101}}
	for _, bad := range badTheories() {
		noneRefuted(t, bad, good)
		noneRefuted(t, bad, impl.Eq{})
		noneRefuted(t, bad, impl.Eq{Vars: []int{0}, Left: []int{0, 1, 100}, Right: []int{100}})
		noneRefuted(t, bad, impl.Eq{Vars: []int{0}, Left: []int{100}, Right: []int{100}})
	}
	for _, s := range []impl.Sig{sigOf("1:"), sigOf("1:000"), sigOf("2:01"), sigOf("3:")} {
		for _, axioms := range badAxioms(s) {
			noneRefuted(t, impl.Theory{Over: s, Axioms: axioms}, good)
			noneRefuted(t, impl.Theory{Over: s, Axioms: axioms}, axioms[0])
		}
		for _, axioms := range badAxioms(s)[5:] {
			for _, e := range axioms {
				if !eqByHand(s, e) {
					noneRefuted(t, impl.Theory{Over: s}, e)
				}
			}
		}
	}
	noneRefuted(t, impl.Theory{}, impl.Eq{})
	noneRefuted(t, impl.Theory{}, good)
	// An equation of another signature.
	noneRefuted(t, known("1:00"), eqOf(sigOf("1:000"), "00 f0(x0,x1)=x0"))
	noneRefuted(t, known("1:00"), eqOf(sigOf("2:00"), "1 x0=x0"))
	noneRefuted(t, known("1:"), eqOf(sigOf("1:0"), " f0=f0"))
}
