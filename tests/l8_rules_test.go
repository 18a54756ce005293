package tests

import (
	"math/rand"
	"testing"

	"loop.example/theorymodules/impl"
)

// viewArgs are arguments of the functions of the chapter: a first theory with a view of it in a second one, and one of this in a third one, an equation and a proof in the first one, and a theory that uses the first one, with its map.
type viewArgs struct {
	A, B, C impl.Theory
	V, W    impl.View
	E       impl.Eq
	Steps   []impl.Step
	T       impl.Theory
	M       impl.Map
}

// outlook returns the first view of some arguments.
func (a viewArgs) outlook() outlook {
	return outlook{a.A, a.B, a.V}
}

// viewArgsFor returns arguments that fit each other, for a view of the second theory in the third one.
func viewArgsFor(r *rand.Rand, o outlook) viewArgs {
	first := outlookOn(r, o.a, 2)
	u := first.anyUse(r)
	w := world{setting{first.a.Over, randomVars(r, first.a.Over.Sorts)}, first.a}
	list := w.pool(r.Int63(), 8)
	a := viewArgs{A: first.a, B: first.b, C: o.b, V: first.v, W: o.v, T: u.t, M: u.m}
	if len(list) > 0 {
		a.Steps, a.E = w.walk(r, list[r.Intn(len(list))], r.Intn(5), list)
	}
	return a
}

// changed returns arguments of which some need not fit, by chance.
func (a viewArgs) changed(r *rand.Rand) viewArgs {
	list := setting{a.A.Over, a.E.Vars}.pool(r.Int63(), 5)
	first := world{setting{a.A.Over, a.E.Vars}, a.A}
	second := world{setting{a.B.Over, nil}, a.B}
	third := world{setting{a.C.Over, nil}, a.C}
	switch r.Intn(9) {
	case 0:
		a.A = anyAxioms(r, first, list)
	case 1:
		a.B = anyAxioms(r, second, list)
	case 2:
		a.C = anyAxioms(r, third, list)
	case 3:
		a.V.Along, a.M = anyMap(r, a.outlook().road()), anyMap(r, road{a.A.Over, a.T.Over, a.M})
	case 4:
		o := a.outlook().anyOther(r)
		a.A, a.B, a.V = o.a, o.b, o.v
	case 5:
		o := outlook{a.B, a.C, a.W}.anyOther(r)
		a.B, a.C, a.W = o.a, o.b, o.v
	case 6:
		a.E, a.Steps = impl.Eq{Vars: anyVars(r, first.setting), Left: anyTerm(r, list), Right: anyTerm(r, list)}, nil
	case 7:
		a.Steps = anyChange(r, a.Steps, list)
	case 8:
		a.T = anyAxioms(r, world{setting{a.T.Over, nil}, a.T}, list)
	}
	return a
}

// mixed returns arguments whose theories, maps and proofs have nothing to do with each other.
func (a viewArgs) mixed(r *rand.Rand) viewArgs {
	for _, theory := range []*impl.Theory{&a.A, &a.B, &a.C, &a.T} {
		theory.Over = anySig(r, theory.Over)
		if r.Intn(4) == 0 {
			theory.Axioms = []impl.Eq{{Vars: anyRow(r), Left: anyRow(r), Right: anyRow(r)}}
		}
	}
	a.V.Along, a.W.Along, a.M = mapOf(anyRow(r), anyRow(r)...), anyLed(r, outlook{a.B, a.C, a.W}.road()), mapOf(anyRow(r), anyRow(r)...)
	a.V.Proofs = nil
	for range r.Intn(5) {
		a.V.Proofs = append(a.V.Proofs, anyChange(r, nil, nil))
	}
	a.Steps = anyChange(r, nil, nil)
	return a
}

// Whatever the arguments are, the results are those that the document tells, and nothing panics.
func TestViewsOfAnyArguments(t *testing.T) {
	r := rand.New(rand.NewSource(210))
	for _, o := range append(goodOutlooks(211, 3, 2), cancelling(), merging(), growing(4, 6), lengthening(2)) {
		a := viewArgsFor(r, o)
		a.check(t)
		for range 6 {
			a.changed(r).check(t)
		}
		a.mixed(r).check(t)
		a.changed(r).mixed(r).check(t)
	}
	viewArgs{}.check(t)
}

// check compares what all functions of the chapter return with what the document tells. To find a view costs more than all else together, so that only theories of few axioms are asked for it.
func (a viewArgs) check(t *testing.T) {
	t.Helper()
	o := a.outlook()
	o.checkView(t)
	outlook{a.B, a.C, a.W}.checkView(t)
	for _, theory := range []impl.Theory{a.A, a.B, a.C, a.T} {
		wantView(t, impl.ViewSelf(theory), true, viewSelfByHand(theory), true, theory)
	}
	o.checkProof(t, a.E, a.Steps)
	o.checkProof(t, a.E, nil)
	o.checkThen(t, a.C, a.W)
	if len(a.B.Axioms) < 2 || len(a.A.Axioms) < 2 {
		o.checkFound(t)
	}
	use{o, a.T, a.M}.checkInstance(t)
}

// results returns what the functions of the chapter return for some arguments.
func (a viewArgs) results() []any {
	impl.ViewOk(a.A, a.B, a.V)
	proof, _ := impl.ViewProof(a.A, a.B, a.V, a.E, a.Steps)
	then, _ := impl.ViewThen(a.A, a.B, a.C, a.V, a.W)
	found, _ := impl.ViewFind(a.A, a.B, a.V.Along)
	instance, right, _ := impl.InstanceOf(a.A, a.T, a.M, a.B, a.V)
	return []any{impl.ViewSelf(a.A), proof, then, found, instance, right}
}

// No argument is written to, and no result shares memory with an argument or with another result.
func TestViewsShareNoMemory(t *testing.T) {
	r := rand.New(rand.NewSource(212))
	for _, o := range append(goodOutlooks(213, 1, 2), cancelling(), merging(), growing(4, 6)) {
		a := viewArgsFor(r, o)
		checkApart(t, a)
		checkApart(t, a.changed(r))
		checkApart(t, a.mixed(r))
		// Along the view of a theory in itself the results are the arguments, in other memory.
		a.B, a.C, a.T, a.M, a.V, a.W = a.A, a.A, a.A, selfByHand(a.A.Over), viewSelfByHand(a.A), viewSelfByHand(a.A)
		checkApart(t, a)
		a.A, a.V.Proofs, a.E, a.Steps = withAxioms(a.A), nil, impl.Eq{Vars: a.E.Vars, Left: a.E.Left, Right: a.E.Left}, nil
		checkApart(t, a)
	}
	for _, bad := range badTheories() {
		zero := impl.View{Along: zeroMap(bad.Over), Proofs: make([][]impl.Step, len(bad.Axioms))}
		checkApart(t, viewArgs{A: bad, B: bad, C: bad, V: zero, W: zero, T: bad, M: zero.Along, E: impl.Eq{Vars: []int{0}, Left: []int{100}, Right: []int{100}}})
	}
}

// Arguments that share memory with each other lead to results that do not: proofs, steps and terms that are one, and maps that are parts of one row.
func TestViewsOfSharedArguments(t *testing.T) {
	s := sigOf("1:0,0,000")
	row := []int{0, 1, 2}
	letters := []int{100, 101}
	terms := [][]int{letters[:1], letters[:1]}
	steps := []impl.Step{{Axiom: 1, Terms: terms}, {Axiom: 1, Back: true, Terms: terms}}
	side := []int{2, 100, 100}
	e := impl.Eq{Vars: []int{0}, Left: side, Right: side}
	comm := impl.Eq{Vars: []int{0, 0}, Left: []int{2, 100, 101}, Right: []int{2, 101, 100}}
	theory := impl.Theory{Over: s, Axioms: []impl.Eq{comm, comm, e}}
	one := [][]int{{100}, {101}}
	proof := []impl.Step{{Axiom: 0, Terms: one}}
	v := impl.View{Along: impl.Map{Sorts: row[:1], Ops: row}, Proofs: [][]impl.Step{proof, proof, steps}}
	if !impl.ViewOk(theory, theory, v) {
		t.Fatal("no view")
	}
	led, okProof := impl.ViewProof(theory, theory, v, e, steps)
	then, okThen := impl.ViewThen(theory, theory, theory, v, v)
	found, okFound := impl.ViewFind(theory, theory, v.Along)
	instance, right, okInstance := impl.InstanceOf(theory, theory, v.Along, theory, v)
	want := []impl.Step{stepAt(0, false, 0, []int{100}, []int{100}), stepAt(0, true, 0, []int{100}, []int{100})}
	wantSteps(t, led, okProof, want, true)
	wantView(t, then, okThen, impl.View{Along: v.Along, Proofs: [][]impl.Step{proof, proof, want}}, true)
	if !okFound || !okInstance || !sameTheory(instance, withAxioms(theory, comm, e)) || !sameMap(right, v.Along) {
		t.Fatal(found, instance, right)
	}
	all := []any{led, then, found, instance, right, impl.ViewSelf(theory), row, letters, one, terms[:0], steps[:0], side, e.Vars, comm, proof[:0], s, theory.Axioms[:0]}
	apart(t, all)
	scribbleRow(row)
	scribbleRow(letters)
	wantSteps(t, led, true, want, true)
	wantMap(t, then.Along, true, mapOf([]int{0}, 0, 1, 2), true)
}
