package tests

import (
	"math/rand"
	"slices"
	"testing"

	"loop.example/theorymodules/impl"
)

// outlook is a theory, another one, and a view of the first one in it.
type outlook struct {
	a, b impl.Theory
	v    impl.View
}

// road returns the map of an outlook.
func (o outlook) road() road {
	return road{o.a.Over, o.b.Over, o.v.Along}
}

// led returns an equation along the map of an outlook, which must be one.
func (o outlook) led(e impl.Eq) impl.Eq {
	other, ok := mapEqByHand(o.road(), e)
	if !ok {
		panic("no equation along the map")
	}
	return other
}

// okByHand is ViewOk as the document tells it.
func (o outlook) okByHand() bool {
	if !theoryByHand(o.a) || !theoryByHand(o.b) || !okByHand(o.a.Over, o.b.Over, o.v.Along) || len(o.v.Proofs) != len(o.a.Axioms) {
		return false
	}
	for i, e := range o.a.Axioms {
		if _, ok := proofByHand(o.b, o.led(e), o.v.Proofs[i]); !ok {
			return false
		}
	}
	return true
}

// viewSelfByHand is ViewSelf as the document tells it.
func viewSelfByHand(t impl.Theory) impl.View {
	if !theoryByHand(t) {
		return impl.View{}
	}
	v := impl.View{Along: selfByHand(t.Over)}
	for i, e := range t.Axioms {
		v.Proofs = append(v.Proofs, []impl.Step{stepAt(i, false, 0, setting{t.Over, e.Vars}.letters()...)})
	}
	return v
}

// partsByHand returns for each step of a proof the steps to which it goes along an outlook, whether they are a proof or not: the proof of its axiom is carried first, and then turned.
func (o outlook) partsByHand(e impl.Eq, steps []impl.Step) ([][]impl.Step, bool) {
	var parts [][]impl.Step
	for _, p := range steps {
		var terms [][]int
		for _, row := range p.Terms {
			_, term, _ := termByHand(o.road(), e.Vars, row)
			terms = append(terms, term)
		}
		part, ok := putProofByHand(o.b, o.led(o.a.Axioms[p.Axiom]), o.v.Proofs[p.Axiom], sortsByHand(o.v.Along, e.Vars), terms)
		if !ok {
			return nil, false
		}
		if p.Back {
			part = backByHand(part)
		}
		for i := range part {
			part[i].At += p.At
		}
		parts = append(parts, part)
	}
	return parts, true
}

// viewProofByHand is ViewProof as the document tells it.
func (o outlook) viewProofByHand(e impl.Eq, steps []impl.Step) ([]impl.Step, bool) {
	if _, ok := proofByHand(o.a, e, steps); !ok || !o.okByHand() {
		return nil, false
	}
	parts, ok := o.partsByHand(e, steps)
	list := slices.Concat(parts...)
	if _, proved := proofByHand(o.b, o.led(e), list); !ok || !proved {
		return nil, false
	}
	return list, true
}

// viewThenByHand is ViewThen as the document tells it, for an outlook and a further theory with a view of the second one in it.
func (o outlook) viewThenByHand(c impl.Theory, w impl.View) (impl.View, bool) {
	then := outlook{o.b, c, w}
	if !o.okByHand() || !then.okByHand() {
		return impl.View{}, false
	}
	both := impl.View{}
	both.Along, _ = thenByHand(o.a.Over, o.b.Over, c.Over, o.v.Along, w.Along)
	for i, e := range o.a.Axioms {
		proof, ok := then.viewProofByHand(o.led(e), o.v.Proofs[i])
		if !ok {
			return impl.View{}, false
		}
		both.Proofs = append(both.Proofs, proof)
	}
	return both, true
}

// viewFindByHand is ViewFind as the document tells it, for the map of an outlook.
func (o outlook) viewFindByHand() (impl.View, bool) {
	if !theoryByHand(o.a) || !theoryByHand(o.b) || !okByHand(o.a.Over, o.b.Over, o.v.Along) {
		return impl.View{}, false
	}
	v := impl.View{Along: o.v.Along}
	for _, e := range o.a.Axioms {
		proof, ok := findByHand(o.b, o.led(e))
		if !ok {
			return impl.View{}, false
		}
		v.Proofs = append(v.Proofs, proof)
	}
	return v, true
}

// use is a theory that uses another one as its part, told by a map, and an outlook of this part.
type use struct {
	outlook
	t impl.Theory
	m impl.Map
}

// fork returns the fork of which an instance is the sum: the part, the theory to which the view leads, and the one that uses the part.
func (u use) fork() fork {
	return fork{u.a.Over, u.b.Over, u.t.Over, u.v.Along, u.m}
}

// instanceByHand is InstanceOf as the document tells it: of all axioms, those of the other theory ahead, it keeps those that are the first ones of their texts.
func (u use) instanceByHand() (impl.Theory, impl.Map, bool) {
	out, okAxioms := mapAxiomsByHand(u.a, u.t, u.m)
	sum, left, right, okSum := u.fork().overByHand()
	if !okAxioms || !okSum || !u.okByHand() {
		return impl.Theory{}, impl.Map{}, false
	}
	var all []impl.Eq
	for _, e := range u.b.Axioms {
		led, _ := mapEqByHand(road{u.b.Over, sum, left}, e)
		all = append(all, led)
	}
	for i, e := range u.t.Axioms {
		if led, _ := mapEqByHand(road{u.t.Over, sum, right}, e); !slices.Contains(out, i) {
			all = append(all, led)
		}
	}
	x, told := impl.Theory{Over: sum}, map[string]bool{}
	for _, e := range all {
		if text := eqTextByHand(sum, e); !told[text] {
			told[text] = true
			x.Axioms = append(x.Axioms, e)
		}
	}
	if len(x.Axioms) > 6 {
		return impl.Theory{}, impl.Map{}, false
	}
	return x, right, true
}

func sameView(a, b impl.View) bool {
	return sameMap(a.Along, b.Along) && slices.EqualFunc(a.Proofs, b.Proofs, sameSteps)
}

// wantView fails if a view and its bool are not those that are wanted, or if there is something beside false.
func wantView(t *testing.T, got impl.View, ok bool, want impl.View, wantOk bool, about ...any) {
	t.Helper()
	if ok != wantOk || !sameView(got, want) {
		t.Fatal("got", got, ok, "wanted", want, wantOk, "for", about)
	}
}

// checkView compares whether a view is one with what the document tells, and reports it.
func (o outlook) checkView(t *testing.T) bool {
	t.Helper()
	ok := impl.ViewOk(o.a, o.b, o.v)
	if ok != o.okByHand() {
		t.Fatal("got", ok, "for", o)
	}
	return ok
}

// checkProof compares a proof along a view with what the document tells, and looks whether it proves the equation along the map; it reports whether there is one.
func (o outlook) checkProof(t *testing.T, e impl.Eq, steps []impl.Step) bool {
	t.Helper()
	want, wantOk := o.viewProofByHand(e, steps)
	got, ok := impl.ViewProof(o.a, o.b, o.v, e, steps)
	wantSteps(t, got, ok, want, wantOk, o, e, steps)
	if ok {
		led, okLed := impl.MapEq(o.a.Over, o.b.Over, o.v.Along, e)
		if !okLed || !impl.ProofOk(o.b, led, got) {
			t.Fatal("not proved", o, e, steps, got)
		}
	}
	return ok
}

// checkThen compares a view and one behind it with what the document tells, and looks whether both are a view along both maps; it reports whether they are.
func (o outlook) checkThen(t *testing.T, c impl.Theory, w impl.View) bool {
	t.Helper()
	want, wantOk := o.viewThenByHand(c, w)
	got, ok := impl.ViewThen(o.a, o.b, c, o.v, w)
	wantView(t, got, ok, want, wantOk, o, c, w)
	if ok {
		both, okBoth := impl.MapThen(o.a.Over, o.b.Over, c.Over, o.v.Along, w.Along)
		wantMap(t, got.Along, okBoth, both, true, o, c, w)
		if !impl.ViewOk(o.a, c, got) {
			t.Fatal("no view", o, c, w, got)
		}
	}
	return ok
}

// checkFound compares the view that is found with what the document tells, and looks whether it is one with this map; it reports whether there is one.
func (o outlook) checkFound(t *testing.T) bool {
	t.Helper()
	want, wantOk := o.viewFindByHand()
	got, ok := impl.ViewFind(o.a, o.b, o.v.Along)
	wantView(t, got, ok, want, wantOk, o)
	if ok && (!sameMap(got.Along, o.v.Along) || !impl.ViewOk(o.a, o.b, got)) {
		t.Fatal("no view", o, got)
	}
	return ok
}

// wantInstance fails if an instance, its map and their bool are not those that are wanted, or if there is something beside false.
func (u use) wantInstance(t *testing.T, want impl.Theory, wantMap impl.Map, wantOk bool) {
	t.Helper()
	got, right, ok := impl.InstanceOf(u.a, u.t, u.m, u.b, u.v)
	if ok != wantOk || !sameTheory(got, want) || !sameMap(right, wantMap) {
		t.Fatal("got", got, right, ok, "wanted", want, wantMap, wantOk, "for", u)
	}
}

// checkInstance compares an instance with what the document tells, and reports whether there is one.
func (u use) checkInstance(t *testing.T) bool {
	t.Helper()
	want, right, ok := u.instanceByHand()
	u.wantInstance(t, want, right, ok)
	return ok
}

// roadTo returns a map to a signature, of one that is made for it, by chance: some sorts and operations are led to one, and some have nothing that is led to them.
func roadTo(r *rand.Rand, b impl.Sig) road {
	if r.Intn(4) == 0 {
		return road{b, b, selfByHand(b)}
	}
	x := road{b: b, a: impl.Sig{Sorts: 1 + r.Intn(3)}}
	for range x.a.Sorts {
		x.m.Sorts = append(x.m.Sorts, r.Intn(b.Sorts))
	}
	for range len(b.Ops) + 4 {
		if op := r.Intn(max(len(b.Ops), 1)); len(x.a.Ops) < 6 && len(b.Ops) > 0 {
			if row, ok := x.rowTo(r, b.Ops[op]); ok {
				x.a.Ops, x.m.Ops = append(x.a.Ops, row), append(x.m.Ops, op)
			}
		}
	}
	return x
}

// rowTo returns a row of sorts that are led to others, by chance; false if there is none.
func (x road) rowTo(r *rand.Rand, led []int) ([]int, bool) {
	var row []int
	for _, to := range led {
		var froms []int
		for sort, other := range x.m.Sorts {
			if other == to {
				froms = append(froms, sort)
			}
		}
		if len(froms) == 0 {
			return nil, false
		}
		row = append(row, froms[r.Intn(len(froms))])
	}
	return row, true
}

// lifted returns a term with letters of some sorts, of a sort, that becomes a term along a map, by chance; false if it does not come to one.
func (t tree) lifted(r *rand.Rand, x road, vars []int, sort int) (tree, bool) {
	if t.number >= 100 {
		return tree{number: t.number, sort: sort}, vars[t.number-100] == sort
	}
	var ops []int
	for op, to := range x.m.Ops {
		if to == t.number && impl.OpLeaves(x.a, op) == sort {
			ops = append(ops, op)
		}
	}
	if len(ops) == 0 {
		return tree{}, false
	}
	whole := tree{number: ops[r.Intn(len(ops))], sort: sort}
	for i, taken := range t.takes {
		part, ok := taken.lifted(r, x, vars, x.a.Ops[whole.number][i])
		if !ok {
			return tree{}, false
		}
		whole.takes = append(whole.takes, part)
	}
	return whole, true
}

// outlookOn returns a theory that is made for another one, and a view of it, by chance: from a term one goes some steps along the map, up to a term that something is led to.
func outlookOn(r *rand.Rand, b impl.Theory, most int) outlook {
	x := roadTo(r, b.Over)
	o := outlook{impl.Theory{Over: x.a}, b, impl.View{Along: x.m}}
	many := r.Intn(7)
	for tries := 0; tries < 40 && len(o.a.Axioms) < many; tries++ {
		vars := randomVars(r, x.a.Sorts)
		list := setting{x.a, vars}.pool(r.Int63(), 12)
		if len(list) == 0 {
			continue
		}
		u := list[r.Intn(len(list))]
		ledVars, led, _ := termByHand(x, vars, u)
		w := world{setting{b.Over, ledVars}, b}
		steps, _ := w.walk(r, led, r.Intn(most+1), w.pool(r.Int63(), 8))
		if right, done, ok := x.rightFor(r, b, vars, u, steps); ok && len(u) < 10 && len(right) < 10 {
			o.a.Axioms = append(o.a.Axioms, impl.Eq{Vars: vars, Left: u, Right: right})
			o.v.Proofs = append(o.v.Proofs, steps[:done])
		}
	}
	return o
}

// rightFor returns a term that becomes, along a map, what steps lead to from a term along the map, as many of them as can be, and how many they are; without steps it must be another one than the term, but for one time out of twelve.
func (x road) rightFor(r *rand.Rand, b impl.Theory, vars, u []int, steps []impl.Step) ([]int, int, bool) {
	ledVars, led, _ := termByHand(x, vars, u)
	ways, _ := waysByHand(b, ledVars, led, steps)
	sort := sortByHand(x.a, vars, u)
	for done := len(ways) - 1; done >= 0; done-- {
		way, _ := treeByHand(b.Over, ledVars, ways[done])
		for range 3 {
			right, ok := way.lifted(r, x, vars, sort)
			if ok && (done > 0 || !sameRow(right.row(), u) || r.Intn(12) == 0) {
				return right.row(), done, true
			}
		}
	}
	return nil, 0, false
}

// goodOutlooks returns outlooks on theories of all kinds, with proofs of at most so many steps, by chance.
func goodOutlooks(seed int64, each, most int) []outlook {
	r := rand.New(rand.NewSource(seed))
	var list []outlook
	for _, w := range worlds() {
		for range each {
			list = append(list, outlookOn(r, w.t, most))
		}
		list = append(list, outlook{w.t, w.t, viewSelfByHand(w.t)})
	}
	return list
}

// anyUse returns a theory that uses the first one of an outlook as its part, by chance: what comes of its axioms, in another order, and others, some of them twice.
func (o outlook) anyUse(r *rand.Rand) use {
	x := anyRoad(r, o.a.Over)
	u := use{o, ledTheory(r, x, o.a), x.m}
	if r.Intn(3) == 0 && len(u.t.Axioms) > 0 && len(u.t.Axioms) < 6 {
		again := u.t.Axioms[r.Intn(len(u.t.Axioms))]
		u.t.Axioms = slices.Insert(u.t.Axioms, r.Intn(len(u.t.Axioms)+1), again)
	}
	return u
}

// goodUse returns a theory that uses the first one of an outlook as its part, of which there is an instance, by chance; the part itself, if none of some is one.
func (o outlook) goodUse(r *rand.Rand) use {
	for range 20 {
		u := o.anyUse(r)
		if _, _, ok := u.instanceByHand(); ok {
			return u
		}
	}
	return use{o, o.a, selfByHand(o.a.Over)}
}

// smallModels returns all models of the axioms of a theory whose sorts have one or two values, if they can be gone through, and otherwise some by chance.
func smallModels(r *rand.Rand, t impl.Theory) []impl.Model {
	all := fewModels(t.Over, 300)
	if all == nil {
		return modelsFor(r, t, 3)
	}
	var hold []impl.Model
	for _, m := range all {
		if isModelByHand(t, m) {
			hold = append(hold, m)
		}
	}
	return hold
}

// wrongViews returns what is no view for an outlook, each made from its view by one change.
func (o outlook) wrongViews() []impl.View {
	list := []impl.View{{}, {Proofs: o.v.Proofs}, {Along: o.v.Along, Proofs: append(slices.Clone(o.v.Proofs), nil)}}
	for _, m := range wrongLeads(o.road()) {
		list = append(list, impl.View{Along: m, Proofs: o.v.Proofs})
	}
	for i, steps := range o.v.Proofs {
		list = append(list, o.withProof(i, append(slices.Clone(steps), stepAt(len(o.b.Axioms), false, 0))))
		list = append(list, o.withProof(i, append(slices.Clone(steps), make([]impl.Step, 21)...)))
		if len(steps) > 0 {
			list = append(list, impl.View{Along: o.v.Along, Proofs: slices.Delete(slices.Clone(o.v.Proofs), i, i+1)})
		}
	}
	return list
}

// withProof returns the view of an outlook with another proof of an axiom.
func (o outlook) withProof(axiom int, steps []impl.Step) impl.View {
	proofs := slices.Clone(o.v.Proofs)
	proofs[axiom] = steps
	return impl.View{Along: o.v.Along, Proofs: proofs}
}
