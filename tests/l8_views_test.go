package tests

import (
	"math"
	"math/rand"
	"slices"
	"testing"

	"loop.example/theorymodules/impl"
)

// outlookOf reads theories, a map and proofs that a test needs.
func outlookOf(a, b world, m impl.Map, proofs ...[]impl.Step) outlook {
	return outlook{a.t, b.t, impl.View{Along: m, Proofs: proofs}}
}

// cancelling returns the outlook of a theory of one axiom on groups, whose proof has three steps.
func cancelling() outlook {
	x0 := []int{100}
	a := worldOf("1:00,000", nil, "0 f1(f0(x0),f1(x0,x0))=x0")
	return outlookOf(a, group(), mapOf([]int{0}, 2, 0), []impl.Step{stepAt(0, true, 0, []int{2, 100}, x0, x0), stepAt(2, false, 1, x0), stepAt(1, false, 0, x0)})
}

// merging returns an outlook whose map leads two sorts and two operations to one: the proofs of its axioms have no step, one turned step, one within a term, and two; the sides of its first axiom and of its last one become the same.
func merging() outlook {
	a := worldOf("2:010,1,1,00", nil, "0 f0(x0,f1)=f0(x0,f2)", "10 x1=f0(x1,f1)", "01 f3(f0(x0,x1))=f3(f3(x0))", "0 f0(x0,f2)=f3(f0(x0,f1))", " f1=f2")
	b := worldOf("1:00,0,000,00", nil, "0 f2(x0,f1)=x0", "00 f2(x0,x1)=f3(x0)", "0 f3(x0)=x0")
	return outlookOf(a, b, mapOf([]int{0, 0}, 2, 1, 1, 3),
		nil,
		[]impl.Step{stepAt(0, true, 0, []int{101})},
		[]impl.Step{stepAt(1, false, 1, []int{100}, []int{101})},
		[]impl.Step{stepAt(0, false, 0, []int{100}), stepAt(0, true, 0, []int{100}), stepAt(2, true, 0, []int{2, 100, 1})},
		[]impl.Step{})
}

// checkBack looks whether every small model of the second theory becomes a model of the first one along the map, and returns how many models of more than one value there are.
func (o outlook) checkBack(t *testing.T, models []impl.Model) int {
	t.Helper()
	many := 0
	for _, m := range models {
		back := impl.ModelBack(o.a.Over, o.b.Over, o.v.Along, m)
		if !impl.IsModel(o.b, m) || !impl.ModelOk(o.a.Over, back) || !impl.IsModel(o.a, back) {
			t.Fatal("no model goes back", o, m, back)
		}
		if slices.Max(m.Sizes) > 1 {
			many++
		}
	}
	return many
}

func TestP27ModelsGoBackAlongViews(t *testing.T) {
	r := rand.New(rand.NewSource(161))
	back := 0
	for _, o := range append(goodOutlooks(160, 6, 4), cancelling(), merging()) {
		if !o.checkView(t) {
			t.Fatal("no view", o)
		}
		back += o.checkBack(t, smallModels(r, o.b))
	}
	if back < 1000 {
		t.Fatal(back)
	}
}

// Whatever is told to be a view, models go back along it: proofs, equations and theories with something changed.
func TestP27ModelsGoBackAlongWhatIsTold(t *testing.T) {
	r := rand.New(rand.NewSource(162))
	seen := map[bool]int{}
	for _, o := range append(goodOutlooks(163, 4, 3), cancelling(), merging()) {
		models := smallModels(r, o.b)
		for range 12 {
			p := o.anyOther(r)
			ok := p.checkView(t)
			seen[ok]++
			if ok && sameTheory(p.b, o.b) {
				p.checkBack(t, models)
			}
		}
	}
	wantSeen(t, seen, 2, 300)
}

// anyOther returns an outlook with one thing changed, by chance.
func (o outlook) anyOther(r *rand.Rand) outlook {
	o.a.Axioms, o.b.Axioms, o.v.Proofs = slices.Clone(o.a.Axioms), slices.Clone(o.b.Axioms), slices.Clone(o.v.Proofs)
	many := len(o.v.Proofs)
	if many == 0 {
		o.v.Along = anyMap(r, o.road())
		return o
	}
	at, other := r.Intn(many), r.Intn(many)
	switch r.Intn(9) {
	case 0:
		o.v.Proofs[at] = anyChange(r, o.v.Proofs[at], nil)
	case 1:
		o.v.Proofs[at] = o.v.Proofs[other]
	case 2:
		o.v.Proofs[at] = o.v.Proofs[at][:len(o.v.Proofs[at])/2]
	case 3:
		o.a.Axioms[at] = turned(o.a.Axioms[at])
	case 4:
		o.a.Axioms[at] = turned(o.a.Axioms[at])
		o.v.Proofs[at] = backByHand(o.v.Proofs[at])
	case 5:
		o.a.Axioms[at] = o.a.Axioms[other]
	case 6:
		o.v.Along = anyMap(r, o.road())
	case 7:
		o.v.Proofs = o.v.Proofs[:at]
	case 8:
		o.a.Axioms, o.v.Proofs = append(o.a.Axioms, o.a.Axioms[at]), append(o.v.Proofs, o.v.Proofs[at])
	}
	return o
}

// An equation that fails in a model of the second theory has no view, whatever proof is tried.
func TestWhatFailsHasNoView(t *testing.T) {
	r := rand.New(rand.NewSource(164))
	b := group()
	m := knownModels()[1]
	list := setting{b.s, []int{0, 0}}.pool(165, 15)
	for _, text := range []string{"00 x0=x1", "0 f0(x0,x0)=x0", "0 f2(x0)=x0", "0 f0(f1,x0)=f0(x0,x0)", "0 f1=x0"} {
		e := eqOf(b.s, text)
		if !impl.IsModel(b.t, m) || impl.Holds(b.s, m, e) {
			t.Fatal("holds", text)
		}
		a := withAxioms(b.t, e)
		for range 200 {
			steps, _ := world{setting{b.s, e.Vars}, b.t}.walk(r, e.Left, r.Intn(6), list)
			for _, some := range [][]impl.Step{steps, anyChange(r, steps, list), nil} {
				if impl.ViewOk(a, b.t, impl.View{Along: impl.MapSelf(b.s), Proofs: [][]impl.Step{some}}) {
					t.Fatal("a view", text, some)
				}
			}
		}
	}
}

func TestViewsOfTheories(t *testing.T) {
	x0, x1 := []int{100}, []int{101}
	o := cancelling()
	three := o.v.Proofs[0]
	unit := eqOf(o.a.Over, "0 f1(f0(x0),f1(x0,x0))=f1(x0,x0)")
	none, one := worldOf("1:000,0,00", nil), worldOf("2:", nil)
	self := mapOf([]int{0}, 0, 1, 2)
	wide := worldOf("1:000,0,00", nil, "00 f0(x0,x1)=f0(x1,x0)", "0 f0(x0,x0)=f0(x0,x0)")
	exchange := worldOf("1:000,0,00", nil, "00 f0(x0,x1)=f0(x1,x0)")
	turn := stepAt(0, false, 0, x0, x1)
	for i, c := range []struct {
		o  outlook
		ok bool
	}{
		{o, true},
		// As many proofs as axioms, fewer and more.
		{outlook{o.a, o.b, impl.View{Along: o.v.Along}}, false},
		{outlook{o.a, o.b, impl.View{Along: o.v.Along, Proofs: [][]impl.Step{}}}, false},
		{outlook{o.a, o.b, impl.View{Along: o.v.Along, Proofs: [][]impl.Step{three, three}}}, false},
		{outlook{o.a, o.b, impl.View{Along: o.v.Along, Proofs: [][]impl.Step{three, nil}}}, false},
		{outlook{withAxioms(o.a, o.a.Axioms[0], o.a.Axioms[0]), o.b, o.v}, false},
		{outlook{withAxioms(o.a, o.a.Axioms[0], o.a.Axioms[0]), o.b, impl.View{Along: o.v.Along, Proofs: [][]impl.Step{three, three}}}, true},
		{outlook{withAxioms(o.a), o.b, o.v}, false},
		{outlookOf(wide, exchange, self, []impl.Step{turn}, nil), true},
		{outlookOf(wide, exchange, self, []impl.Step{turn}), false},
		{outlookOf(wide, exchange, self, nil, []impl.Step{turn}), false},
		{outlookOf(wide, exchange, self, []impl.Step{turn}, nil, nil), false},
		{outlookOf(wide, exchange, self, []impl.Step{turn, turn}, nil), false},
		// A proof of another equation, one that does not lead to the end, one that goes on, and one of none.
		{outlook{withAxioms(o.a, unit), o.b, o.v}, false},
		{outlook{withAxioms(o.a, turned(o.a.Axioms[0])), o.b, o.v}, false},
		{outlook{withAxioms(o.a, turned(o.a.Axioms[0])), o.b, impl.View{Along: o.v.Along, Proofs: [][]impl.Step{backByHand(three)}}}, true},
		{outlook{o.a, o.b, o.withProof(0, three[:2])}, false},
		{outlook{o.a, o.b, o.withProof(0, three[1:])}, false},
		{outlook{o.a, o.b, o.withProof(0, nil)}, false},
		{outlook{o.a, o.b, o.withProof(0, slices.Concat(three, three))}, false},
		{outlook{o.a, o.b, o.withProof(0, backByHand(three))}, false},
		{outlook{o.a, o.b, o.withProof(0, slices.Concat(three, []impl.Step{stepAt(1, true, 0, x0), stepAt(1, false, 0, x0)}))}, true},
		{outlook{o.a, o.b, o.withProof(0, slices.Concat(three, []impl.Step{stepAt(1, true, 0, x0)}))}, false},
		// A proof that uses an axiom that is not there.
		{outlook{o.a, withAxioms(o.b, o.b.Axioms[:2]...), o.v}, false},
		{outlook{o.a, withAxioms(o.b), o.v}, false},
		{outlook{o.a, withAxioms(o.b, o.b.Axioms[0], o.b.Axioms[2], o.b.Axioms[1]), o.v}, false},
		{outlook{o.a, o.b, o.withProof(0, []impl.Step{three[0], stepAt(3, false, 1, x0), three[2]})}, false},
		{outlook{o.a, o.b, o.withProof(0, []impl.Step{three[0], stepAt(-1, false, 1, x0), three[2]})}, false},
		// Terms with letters that the axiom does not have, and places that there are not.
		{outlook{o.a, o.b, o.withProof(0, []impl.Step{three[0], three[1], stepAt(1, false, 0, x1)})}, false},
		{outlook{o.a, o.b, o.withProof(0, []impl.Step{three[0], stepAt(2, false, 9, x0), three[2]})}, false},
		// Without axioms, on one side and on both.
		{outlookOf(none, none, self), true},
		{outlookOf(none, group(), self), true},
		{outlookOf(group(), none, self, nil, nil, nil), false},
		{outlookOf(none, group(), self, nil), false},
		{outlookOf(worldOf("1:000,0,00", nil, "0 f2(x0)=f2(x0)"), none, self, nil), true},
		{outlookOf(worldOf("1:000,0,00", nil, "0 f2(x0)=f2(f1)"), none, self, nil), false},
		{outlookOf(one, worldOf("3:", nil), mapOf([]int{2, 2})), true},
		{outlookOf(one, worldOf("3:", nil, "22 x0=x1"), mapOf([]int{2, 2})), true},
		{outlookOf(worldOf("2:", nil, "01 x0=x0"), worldOf("1:", nil), mapOf([]int{0, 0}), nil), true},
		{outlookOf(worldOf("2:", nil, "00 x0=x1"), worldOf("1:", nil), mapOf([]int{0, 0}), nil), false},
	} {
		if c.o.checkView(t) != c.ok {
			t.Fatal("case", i, c)
		}
	}
}

func TestViewsThatLeadTwoToOne(t *testing.T) {
	o := merging()
	if !o.checkView(t) {
		t.Fatal("no view", o)
	}
	// With another proof, or with none where there must be one.
	for axiom, steps := range o.v.Proofs {
		for _, other := range [][]impl.Step{nil, {stepAt(0, true, 0, []int{1})}, {stepAt(2, true, 0, []int{100})}, backByHand(steps)} {
			want := len(steps) == 0 && len(other) == 0
			if p := (outlook{o.a, o.b, o.withProof(axiom, other)}); p.checkView(t) != want {
				t.Fatal(axiom, other)
			}
		}
	}
	// The sides become the same along this map, and not along another one.
	a := worldOf("1:0,0,00", nil, " f0=f1", " f2(f0)=f2(f1)")
	for _, c := range []struct {
		ops []int
		ok  bool
	}{{[]int{0, 0, 2}, true}, {[]int{1, 1, 2}, true}, {[]int{0, 1, 2}, false}, {[]int{1, 0, 2}, false}} {
		if outlookOf(a, worldOf("1:0,0,00", nil), mapOf([]int{0}, c.ops...), nil, nil).checkView(t) != c.ok {
			t.Fatal(c)
		}
	}
	// A proof has at most 20 steps.
	for many := range 24 {
		w := worldOf("1:000,0,00", nil, "0 x0=f2(x0)")
		e := impl.Eq{Left: []int{1}, Right: [][]int{{1}, {2, 1}}[many%2]}
		if p := (outlook{withAxioms(w.t, e), w.t, impl.View{Along: impl.MapSelf(w.s), Proofs: [][]impl.Step{toAndFro(many)}}}); p.checkView(t) != (many <= 20) {
			t.Fatal(many, "steps")
		}
	}
}

func TestViewsOfWhatIsNotOk(t *testing.T) {
	for _, o := range append(goodOutlooks(166, 1, 3), cancelling(), merging()) {
		for _, v := range o.wrongViews() {
			if (outlook{o.a, o.b, v}).checkView(t) {
				t.Fatal("a view", o, v)
			}
		}
	}
	w := group()
	self := impl.MapSelf(w.s)
	v := viewSelfByHand(w.t)
	four := impl.View{Along: self, Proofs: append(slices.Clone(v.Proofs), nil)}
	for _, bad := range badTheories() {
		for _, view := range []impl.View{v, four, {}, {Along: self}, {Along: zeroMap(bad.Over)}, {Along: self, Proofs: make([][]impl.Step, len(bad.Axioms))}, {Along: zeroMap(bad.Over), Proofs: make([][]impl.Step, len(bad.Axioms))}} {
			if impl.ViewOk(bad, w.t, view) || impl.ViewOk(w.t, bad, view) || impl.ViewOk(bad, bad, view) || impl.ViewOk(withAxioms(w.t), bad, view) || impl.ViewOk(bad, withAxioms(w.t), view) {
				t.Fatal("a view", bad, view)
			}
		}
	}
	// No theory, though all its axioms but one have a proof, or none is used.
	for _, list := range badAxioms(w.s) {
		bad := withAxioms(w.t, list...)
		none := impl.View{Along: self, Proofs: make([][]impl.Step, len(list))}
		if impl.ViewOk(bad, w.t, none) || impl.ViewOk(bad, bad, none) || impl.ViewOk(withAxioms(w.t), bad, impl.View{Along: self}) {
			t.Fatal("a view", bad)
		}
	}
	if impl.ViewOk(impl.Theory{}, impl.Theory{}, impl.View{}) || impl.ViewOk(w.t, w.t, impl.View{}) || impl.ViewOk(withAxioms(w.t), withAxioms(w.t), impl.View{}) {
		t.Fatal("nothing")
	}
	e := eqOf(w.s, " f1=f1")
	for _, number := range []int{math.MinInt, -1, 3, 4, math.MaxInt} {
		for _, p := range []impl.Step{stepAt(number, false, 0), stepAt(1, true, number, []int{1})} {
			if impl.ViewOk(withAxioms(w.t, e), w.t, impl.View{Along: self, Proofs: [][]impl.Step{{p}}}) {
				t.Fatal("a view", p)
			}
		}
	}
}

// checkSelf compares the view of a theory in itself with what the document tells; it is one, and its map leaves all.
func checkSelf(t *testing.T, theory impl.Theory) impl.View {
	t.Helper()
	v := impl.ViewSelf(theory)
	wantView(t, v, true, viewSelfByHand(theory), true, theory)
	if !impl.ViewOk(theory, theory, v) {
		t.Fatal("no view", theory, v)
	}
	wantMap(t, v.Along, true, impl.MapSelf(theory.Over), true, theory)
	for sort, to := range v.Along.Sorts {
		if to != sort {
			t.Fatal("does not leave all", theory, v)
		}
	}
	for op, to := range v.Along.Ops {
		if to != op {
			t.Fatal("does not leave all", theory, v)
		}
	}
	return v
}

func TestP72EveryTheoryIsAViewOfItself(t *testing.T) {
	r := rand.New(rand.NewSource(167))
	for _, w := range worlds() {
		checkSelf(t, w.t)
		checkSelf(t, withAxioms(w.t))
		if len(w.t.Axioms) == 0 {
			continue
		}
		// Axioms turned, and the same ones more often, up to as many as are allowed.
		for many := 1; many <= 6; many++ {
			theory := withAxioms(w.t)
			for range many {
				e := w.t.Axioms[r.Intn(len(w.t.Axioms))]
				theory.Axioms = append(theory.Axioms, []impl.Eq{e, turned(e)}[r.Intn(2)])
			}
			checkSelf(t, theory)
		}
	}
	for _, o := range goodOutlooks(168, 3, 2) {
		checkSelf(t, o.a)
	}
	for _, s := range validSigs() {
		if v := checkSelf(t, impl.Theory{Over: s}); len(v.Proofs) != 0 {
			t.Fatal(s, v)
		}
	}
}

func TestViewsOfTheoriesInThemselves(t *testing.T) {
	x0, x1, x2, x3 := []int{100}, []int{101}, []int{102}, []int{103}
	for _, c := range []struct {
		w    world
		want [][]impl.Step
	}{
		{group(), [][]impl.Step{{stepAt(0, false, 0, x0, x1, x2)}, {stepAt(1, false, 0, x0)}, {stepAt(2, false, 0, x0)}}},
		// No letters, letters alone on one side and on both, and letters that stand on one side only, or on none.
		{worldOf("1:00,0", nil, " f1=f0(f1)", " f1=f1"), [][]impl.Step{{stepAt(0, false, 0)}, {stepAt(1, false, 0)}}},
		{worldOf("1:00,0", nil, "0 x0=f0(x0)", "0 f0(x0)=x0", "00 x0=x1", "0 x0=x0", "00 x1=f1"), [][]impl.Step{{stepAt(0, false, 0, x0)}, {stepAt(1, false, 0, x0)}, {stepAt(2, false, 0, x0, x1)}, {stepAt(3, false, 0, x0)}, {stepAt(4, false, 0, x0, x1)}}},
		{worldOf("1:00,0", nil, "0000 f1=f0(f1)", "0 f1=f0(x0)", "000 f0(x2)=f1"), [][]impl.Step{{stepAt(0, false, 0, x0, x1, x2, x3)}, {stepAt(1, false, 0, x0)}, {stepAt(2, false, 0, x0, x1, x2)}}},
		// Letters of more sorts.
		{worldOf("3:012,20,1", nil, "201 f1(f0(x1,x2))=x1", "1 x0=f2"), [][]impl.Step{{stepAt(0, false, 0, x0, x1, x2)}, {stepAt(1, false, 0, x0)}}},
		// No operations, and no axioms.
		{worldOf("2:", nil, "10 x0=x0", "11 x1=x0"), [][]impl.Step{{stepAt(0, false, 0, x0, x1)}, {stepAt(1, false, 0, x0, x1)}}},
		{worldOf("3:", nil), nil},
		{worldOf("1:000,0,00", nil), nil},
		// As many axioms as are allowed, and all of them one: each is proved by itself.
		{worldOf("1:00", nil, sixEqs(0)...), [][]impl.Step{{stepAt(0, false, 0, x0)}, {stepAt(1, false, 0, x0)}, {stepAt(2, false, 0, x0)}, {stepAt(3, false, 0, x0)}, {stepAt(4, false, 0, x0)}, {stepAt(5, false, 0, x0, x1)}}},
		{worldOf("1:0", nil, " f0=f0", " f0=f0", " f0=f0", " f0=f0", " f0=f0", " f0=f0"), [][]impl.Step{{stepAt(0, false, 0)}, {stepAt(1, false, 0)}, {stepAt(2, false, 0)}, {stepAt(3, false, 0)}, {stepAt(4, false, 0)}, {stepAt(5, false, 0)}}},
	} {
		wantView(t, checkSelf(t, c.w.t), true, impl.View{Along: selfByHand(c.w.s), Proofs: c.want}, true, c)
	}
	// A side with as many numbers as are allowed.
	w := group()
	checkSelf(t, withAxioms(w.t, chainEq(30, 30), chainEq(1, 30), chainEq(30, 1)))
}

func TestViewsOfNoTheoriesInThemselves(t *testing.T) {
	for _, bad := range badTheories() {
		wantView(t, impl.ViewSelf(bad), true, impl.View{}, true, bad)
	}
	for _, s := range []impl.Sig{sigOf("1:"), sigOf("1:000,0,00"), sigOf("2:01,1"), sigOf("3:012,20")} {
		for _, list := range badAxioms(s) {
			bad := impl.Theory{Over: s, Axioms: list}
			wantView(t, impl.ViewSelf(bad), true, impl.View{}, true, bad)
		}
	}
	wantView(t, impl.ViewSelf(impl.Theory{}), true, impl.View{}, true)
	w := group()
	wantView(t, impl.ViewSelf(withAxioms(w.t, chainEq(31, 31))), true, impl.View{}, true)
}
