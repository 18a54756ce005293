package tests

import (
	"math"
	"math/rand"
	"reflect"
	"slices"
	"strconv"
	"testing"

	"loop.example/theorymodules/impl"
)

// anyAxioms returns the theory of a world, or one with something changed, which need not be ok.
func anyAxioms(r *rand.Rand, w world, list [][]int) impl.Theory {
	t := impl.Theory{Over: w.s, Axioms: slices.Clone(w.t.Axioms)}
	switch r.Intn(12) {
	case 0:
		bad := invalidSigs()
		t.Over = bad[r.Intn(len(bad))]
	case 1:
		t.Axioms = append(t.Axioms, impl.Eq{Vars: anyVars(r, w.setting), Left: anyTerm(r, list), Right: anyTerm(r, list)})
	case 2:
		for range 5 {
			t.Axioms = append(t.Axioms, w.t.Axioms...)
		}
	case 3:
		if len(t.Axioms) > 0 {
			e := &t.Axioms[r.Intn(len(t.Axioms))]
			e.Right = anyRow(r)
		}
	}
	return t
}

// anyChange returns steps with one thing changed, or with one more.
func anyChange(r *rand.Rand, steps []impl.Step, list [][]int) []impl.Step {
	numbers := []int{math.MinInt, -1, 0, 1, 2, 3, 5, 6, 29, 30, math.MaxInt}
	p := impl.Step{Axiom: numbers[r.Intn(len(numbers))], Back: r.Intn(2) == 0, At: numbers[r.Intn(len(numbers))], Terms: anyTerms(r, list, r.Intn(5))}
	changed := slices.Clone(steps)
	if len(steps) == 0 || r.Intn(6) == 0 {
		return slices.Insert(changed, r.Intn(len(steps)+1), p)
	}
	at := r.Intn(len(steps))
	switch r.Intn(5) {
	case 0:
		changed[at].Axiom = p.Axiom
	case 1:
		changed[at].Back = !changed[at].Back
	case 2:
		changed[at].At = p.At
	case 3:
		changed[at].Terms = p.Terms
	}
	return changed
}

// Whatever the arguments are, the results are those that the document tells, and nothing panics.
func TestProofsOfAnyArguments(t *testing.T) {
	r := rand.New(rand.NewSource(32))
	for i, w := range worlds() {
		list := w.pool(int64(i+2300), 30)
		for range 80 {
			theory := anyAxioms(r, w, list)
			var steps []impl.Step
			e := impl.Eq{Vars: anyVars(r, w.setting), Left: anyTerm(r, list), Right: anyTerm(r, list)}
			if len(list) > 0 && r.Intn(4) > 0 {
				steps, e = w.walk(r, list[r.Intn(len(list))], r.Intn(6), list)
			}
			if r.Intn(2) == 0 {
				steps = anyChange(r, steps, list)
			}
			checkAnyProof(t, r, world{w.setting, theory}, e, steps, list)
		}
	}
}

func checkAnyProof(t *testing.T, r *rand.Rand, w world, e impl.Eq, steps []impl.Step, list [][]int) {
	t.Helper()
	if impl.EqOk(w.t.Over, e) != eqByHand(w.t.Over, e) || impl.TheoryOk(w.t) != theoryByHand(w.t) {
		t.Fatal("ok", w, e)
	}
	for _, p := range steps {
		checkStep(t, w.t, e.Vars, e.Left, p)
	}
	checkRun(t, w.t, e.Vars, e.Left, steps)
	if _, want := proofByHand(w.t, e, steps); impl.ProofOk(w.t, e, steps) != want {
		t.Fatal("ProofOk", w, e, steps, want)
	}
	wantSteps(t, impl.ProofBack(steps), true, backByHand(steps), true, steps)
	others, terms, u, at := anyVars(r, w.setting), anyTerms(r, list, r.Intn(5)), anyTerm(r, list), r.Intn(6)-1
	if r.Intn(2) == 0 {
		terms = anyTerms(r, list, len(e.Vars))
	}
	carried, ok := impl.ProofPut(w.t, e, steps, others, terms)
	want, wantOk := putProofByHand(w.t, e, steps, others, terms)
	wantSteps(t, carried, ok, want, wantOk, w, e, steps, others, terms)
	moved, ok := impl.ProofUnder(w.t, e, steps, u, at)
	want, wantOk = underByHand(w.t, e, steps, u, at)
	wantSteps(t, moved, ok, want, wantOk, w, e, steps, u, at)
	wantSteps(t, impl.StepsFrom(w.t, e.Vars, e.Left), true, fromByHand(w.t, e.Vars, e.Left), true, w, e)
	if !theoryByHand(w.t) || !eqByHand(w.t.Over, e) {
		checkFind(t, w.t, e, nil, false)
	}
	text := eqTextByHand(w.t.Over, e)
	if got := impl.EqText(w.t.Over, e); got != text {
		t.Fatal("EqText", w, e, got, text)
	}
	checkReadEq(t, w.t.Over, text)
}

// spared returns a copy of a value in which each slice has capacity behind its end, with something in it.
func spared[T any](value T) T {
	var other T
	spareInto(reflect.ValueOf(&other).Elem(), reflect.ValueOf(value))
	return other
}

func spareInto(to, from reflect.Value) {
	switch from.Kind() {
	case reflect.Struct:
		for i := range from.NumField() {
			spareInto(to.Field(i), from.Field(i))
		}
	case reflect.Slice:
		whole := reflect.MakeSlice(from.Type(), from.Len()+2, from.Len()+2)
		for i := range from.Len() {
			spareInto(whole.Index(i), from.Index(i))
		}
		for i := from.Len(); i < whole.Len(); i++ {
			mark(whole.Index(i))
		}
		to.Set(whole.Slice(0, from.Len()))
	default:
		to.Set(from)
	}
}

// mark puts something into a value that nothing else has.
func mark(v reflect.Value) {
	switch v.Kind() {
	case reflect.Int:
		v.SetInt(spare)
	case reflect.String:
		v.SetString("spare")
	case reflect.Struct:
		for i := range v.NumField() {
			mark(v.Field(i))
		}
	case reflect.Slice:
		v.Set(reflect.MakeSlice(v.Type(), 1, 1))
		mark(v.Index(0))
	}
}

// wholeText tells all that can be reached from a value, the spare capacity too.
func wholeText(v reflect.Value) string {
	text := ""
	switch v.Kind() {
	case reflect.Int:
		return strconv.Itoa(int(v.Int())) + " "
	case reflect.Bool:
		return strconv.FormatBool(v.Bool()) + " "
	case reflect.String:
		return strconv.Quote(v.String()) + " "
	case reflect.Struct:
		for i := range v.NumField() {
			text += wholeText(v.Field(i))
		}
	case reflect.Slice:
		for i := range v.Cap() {
			text += wholeText(v.Slice3(0, v.Cap(), v.Cap()).Index(i))
		}
	}
	return "(" + text + ")"
}

// memory is where a slice has its elements, the spare capacity too.
type memory struct {
	begin, end uintptr
}

// memoryOf returns the memory of all slices that can be reached from a value.
func memoryOf(v reflect.Value) []memory {
	var list []memory
	switch v.Kind() {
	case reflect.Struct:
		for i := range v.NumField() {
			list = append(list, memoryOf(v.Field(i))...)
		}
	case reflect.Slice:
		if v.Cap() > 0 {
			list = append(list, memory{v.Pointer(), v.Pointer() + uintptr(v.Cap())*v.Type().Elem().Size()})
		}
		for i := range v.Len() {
			list = append(list, memoryOf(v.Index(i))...)
		}
	}
	return list
}

// apart fails if two slices of some values have memory in common.
func apart(t *testing.T, values []any) {
	t.Helper()
	var list []memory
	for _, value := range values {
		list = append(list, memoryOf(reflect.ValueOf(value))...)
	}
	slices.SortFunc(list, func(a, b memory) int {
		if a.begin < b.begin {
			return -1
		}
		return 1
	})
	for i := 1; i < len(list); i++ {
		if list[i].begin < list[i-1].end {
			t.Fatal("memory is shared", values)
		}
	}
}

// proofArgs are arguments of the functions of the chapter.
type proofArgs struct {
	T      impl.Theory
	E      impl.Eq
	Steps  []impl.Step
	Others []int
	Terms  [][]int
	U      []int
	At     int
}

// results returns what the functions of the chapter return for some arguments.
func (a proofArgs) results() []any {
	impl.EqOk(a.T.Over, a.E)
	impl.TheoryOk(a.T)
	impl.ProofOk(a.T, a.E, a.Steps)
	var list []any
	for _, p := range a.Steps {
		after, _ := impl.StepDo(a.T, a.E.Vars, a.E.Left, p)
		list = append(list, after)
	}
	last, _ := impl.ProofRun(a.T, a.E.Vars, a.E.Left, a.Steps)
	same, _ := impl.ProofRun(a.T, a.E.Vars, a.E.Left, nil)
	carried, _ := impl.ProofPut(a.T, a.E, a.Steps, a.Others, a.Terms)
	moved, _ := impl.ProofUnder(a.T, a.E, a.Steps, a.U, a.At)
	found, _ := impl.ProofFind(a.T, a.E)
	read, _ := impl.ReadEq(a.T.Over, impl.EqText(a.T.Over, a.E))
	return append(list, last, same, impl.ProofBack(a.Steps), carried, moved, impl.StepsFrom(a.T, a.E.Vars, a.E.Left), found, read)
}

// checkApart calls the functions of a chapter twice, and fails if an argument is written to, or if memory is shared.
func checkApart[A interface{ results() []any }](t *testing.T, a A) {
	t.Helper()
	given := spared(a)
	before := wholeText(reflect.ValueOf(given))
	results := append(given.results(), given.results()...)
	if after := wholeText(reflect.ValueOf(given)); after != before {
		t.Fatal("written to", a, before, after)
	}
	apart(t, append(results, given))
}

// No argument is written to, and no result shares memory with an argument or with another result.
func TestProofsShareNoMemory(t *testing.T) {
	r := rand.New(rand.NewSource(33))
	for i, w := range worlds() {
		list := w.pool(int64(i+2400), 8)
		for _, u := range list {
			at := r.Intn(len(u))
			steps, e := w.walk(r, atByHand(w.s, w.vars, u, at), r.Intn(5), list)
			others := setting{w.s, randomVars(r, w.s.Sorts)}
			terms, ok := others.termsFor(r, others.pool(r.Int63(), 5), w.vars)
			if !ok {
				others, terms = w.setting, w.letters()
			}
			checkApart(t, proofArgs{w.t, e, steps, others.vars, terms, u, at})
			checkApart(t, proofArgs{w.t, e, anyChange(r, steps, list), others.vars, terms, u, at})
			checkApart(t, proofArgs{w.t, e, nil, w.vars, w.letters(), u, at})
		}
	}
	for _, bad := range badTheories() {
		checkApart(t, proofArgs{T: bad, E: impl.Eq{Vars: []int{0}, Left: []int{0, 1, 100}, Right: []int{100}}, Steps: []impl.Step{stepAt(1, false, 0, []int{100})}, U: []int{100}})
	}
}

// Steps and terms that share memory with each other lead to results that do not.
func TestProofsOfSharedArguments(t *testing.T) {
	w := worldOf("1:000,0,00", []int{0, 0}, "0 x0=f2(x0)", "00 f0(x0,x1)=f0(x1,x0)", "000 f2(x1)=x1")
	row := []int{100}
	terms := [][]int{row, row}
	steps := []impl.Step{{Axiom: 1, Terms: terms}, {Axiom: 1, Terms: terms}}
	u := []int{0, 100, 100}
	e := impl.Eq{Vars: w.vars, Left: u, Right: u}
	carried, okPut := impl.ProofPut(w.t, e, steps, w.vars, terms)
	moved, okUnder := impl.ProofUnder(w.t, e, steps, u, 0)
	last, okRun := impl.ProofRun(w.t, w.vars, u, steps)
	if !okPut || !okUnder || !okRun || len(impl.StepsFrom(w.t, w.vars, []int{2, 100})) != 6 {
		t.Fatal(carried, moved, last)
	}
	apart(t, []any{carried, moved, last, impl.ProofBack(steps), impl.StepsFrom(w.t, w.vars, []int{2, 100}), row, u, w.vars})
}
