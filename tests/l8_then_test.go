package tests

import (
	"math/rand"
	"slices"
	"testing"

	"loop.example/theorymodules/impl"
)

func TestP29ViewsFollowEachOther(t *testing.T) {
	r := rand.New(rand.NewSource(180))
	seen := map[bool]int{}
	steps := 0
	for _, o := range append(goodOutlooks(181, 5, 3), slices.Repeat([]outlook{cancelling(), merging()}, 10)...) {
		first := outlookOn(r, o.a, 3)
		ok := first.checkThen(t, o.b, o.v)
		seen[ok]++
		if ok {
			both, _ := impl.ViewThen(first.a, first.b, o.b, first.v, o.v)
			for _, proof := range both.Proofs {
				steps += len(proof)
			}
		}
		seen[first.checkThen(t, o.b, o.anyOther(r).v)]++
		seen[first.anyOther(r).checkThen(t, o.b, o.v)]++
	}
	wantSeen(t, seen, 2, 200)
	if steps < 500 {
		t.Fatal(steps)
	}
}

// With the view of the third theory in itself behind it, and that of the first one ahead of it, a view is itself.
func TestP29ViewsFollowThoseOfTheoriesInThemselves(t *testing.T) {
	for _, o := range append(goodOutlooks(182, 10, 5), cancelling(), merging(), lengthening(3), growing(20, 19, 0, 1, 7)) {
		got, ok := impl.ViewThen(o.a, o.b, o.b, o.v, impl.ViewSelf(o.b))
		wantView(t, got, ok, o.v, true, o)
		got, ok = impl.ViewThen(o.a, o.a, o.b, impl.ViewSelf(o.a), o.v)
		wantView(t, got, ok, o.v, true, o)
		got, ok = impl.ViewThen(o.a, o.a, o.a, impl.ViewSelf(o.a), impl.ViewSelf(o.a))
		wantView(t, got, ok, impl.ViewSelf(o.a), true, o)
	}
}

// Along two views, one behind the other, a proof and a model go as along both.
func TestProofsAndModelsAlongBothViews(t *testing.T) {
	r := rand.New(rand.NewSource(183))
	proofs, models := 0, 0
	for i, o := range goodOutlooks(184, 2, 2) {
		first := outlookOn(r, o.a, 2)
		both, ok := impl.ViewThen(first.a, first.b, o.b, first.v, o.v)
		if !ok {
			continue
		}
		for _, m := range smallModels(r, o.b) {
			middle := impl.ModelBack(o.a.Over, o.b.Over, o.v.Along, m)
			back := impl.ModelBack(first.a.Over, o.b.Over, both.Along, m)
			wantModel(t, back, true, impl.ModelBack(first.a.Over, first.b.Over, first.v.Along, middle), true, o, m)
			if !impl.IsModel(first.a, back) {
				t.Fatal("no model", o, first, m)
			}
			models++
		}
		w := world{setting{first.a.Over, randomVars(r, first.a.Over.Sorts)}, first.a}
		list := w.pool(int64(i+5000), 6)
		for _, u := range list {
			steps, e := w.walk(r, u, 3, list)
			there, ok := impl.ViewProof(first.a, first.b, first.v, e, steps)
			if !ok {
				continue
			}
			end, okEnd := impl.ViewProof(o.a, o.b, o.v, first.led(e), there)
			got, ok := impl.ViewProof(first.a, o.b, both, e, steps)
			if okEnd && ok {
				wantSteps(t, got, true, end, true, o, first, e, steps)
				proofs += len(got)
			}
		}
	}
	if proofs < 100 || models < 200 {
		t.Fatal(proofs, models)
	}
}

func TestViewsBehindEachOther(t *testing.T) {
	x0, x1, one := []int{100}, []int{101}, []int{1}
	second := cancelling()
	for _, c := range []struct {
		first  outlook
		second outlook
		want   impl.View
	}{
		// The first one leads to the axiom, and to the axiom turned.
		{
			outlookOf(worldOf("1:00,000", nil, "0 f1(f0(x0),f1(x0,x0))=x0"), world{setting{second.a.Over, nil}, second.a}, mapOf([]int{0}, 0, 1), []impl.Step{stepAt(0, false, 0, x0)}), second,
			impl.View{Along: mapOf([]int{0}, 2, 0), Proofs: [][]impl.Step{second.v.Proofs[0]}},
		},
		{
			outlookOf(worldOf("1:000,00", nil, "00 f1(x1)=f1(f0(f1(x1),f0(x1,x1)))"), world{setting{second.a.Over, nil}, second.a}, mapOf([]int{0}, 1, 0), []impl.Step{stepAt(0, true, 1, x1)}), second,
			impl.View{Along: mapOf([]int{0}, 0, 2), Proofs: [][]impl.Step{{stepAt(1, true, 1, x1), stepAt(2, true, 2, x1), stepAt(0, false, 1, []int{2, 101}, x1, x1)}}},
		},
		// Proofs without steps in the first one, in the second one, and in both.
		{
			outlookOf(worldOf("1:0,0", nil, " f0=f1", " f1=f0"), worldOf("2:01,0", nil, "1 x0=x0"), mapOf([]int{0}, 1, 1), nil, nil), outlookOf(worldOf("2:01,0", nil, "1 x0=x0"), worldOf("1:00,0", nil), mapOf([]int{0, 0}, 0, 1), nil),
			impl.View{Along: mapOf([]int{0}, 1, 1), Proofs: [][]impl.Step{nil, nil}},
		},
		{
			outlookOf(worldOf("1:0,0,00", nil, " f0=f1", " f2(f1)=f2(f0)"), worldOf("1:00,0,0", nil, " f1=f2"), mapOf([]int{0}, 1, 2, 0), []impl.Step{stepAt(0, false, 0)}, []impl.Step{stepAt(0, true, 1)}),
			outlookOf(worldOf("1:00,0,0", nil, " f1=f2"), worldOf("1:0,00", nil, "0 x0=f1(x0)"), mapOf([]int{0}, 1, 0, 0), nil),
			impl.View{Along: mapOf([]int{0}, 0, 0, 1), Proofs: [][]impl.Step{nil, nil}},
		},
		{
			outlookOf(worldOf("1:0,0,00", nil, " f0=f1", " f0=f0", " f2(f1)=f2(f0)"), worldOf("1:00,0,0", nil, " f1=f2"), mapOf([]int{0}, 1, 2, 0), []impl.Step{stepAt(0, false, 0)}, nil, []impl.Step{stepAt(0, true, 1)}),
			outlookOf(worldOf("1:00,0,0", nil, " f1=f2"), worldOf("1:0,00", nil, "0 x0=f1(x0)"), mapOf([]int{0}, 1, 0, 0), []impl.Step{stepAt(0, false, 0, []int{0}), stepAt(0, true, 0, []int{0})}),
			impl.View{Along: mapOf([]int{0}, 0, 0, 1), Proofs: [][]impl.Step{{stepAt(0, false, 0, []int{0}), stepAt(0, true, 0, []int{0})}, nil, {stepAt(0, false, 1, []int{0}), stepAt(0, true, 1, []int{0})}}},
		},
		// Two sorts that become one at the first view, and two operations at the second one.
		{
			outlookOf(worldOf("2:01,10,0", nil, "0 f1(f0(x0))=x0", "1 x0=f0(f1(x0))"), worldOf("1:00,00,0", nil, "0 f0(f1(x0))=x0", "0 f1(f0(x0))=x0"), mapOf([]int{0, 0}, 0, 1, 2), []impl.Step{stepAt(1, false, 0, x0)}, []impl.Step{stepAt(0, true, 0, x0)}),
			outlookOf(worldOf("1:00,00,0", nil, "0 f0(f1(x0))=x0", "0 f1(f0(x0))=x0"), worldOf("1:0,00", nil, "0 f1(x0)=x0"), mapOf([]int{0}, 1, 1, 0), []impl.Step{stepAt(0, false, 0, []int{1, 100}), stepAt(0, false, 0, x0)}, []impl.Step{stepAt(0, false, 1, x0), stepAt(0, false, 0, x0)}),
			impl.View{Along: mapOf([]int{0, 0}, 1, 1, 0), Proofs: [][]impl.Step{{stepAt(0, false, 1, x0), stepAt(0, false, 0, x0)}, {stepAt(0, true, 0, x0), stepAt(0, true, 0, []int{1, 100})}}},
		},
		// Without axioms, in the first theory, in the first two, and in all.
		{
			outlookOf(worldOf("1:0", nil), worldOf("1:0,00", nil, "0 f1(x0)=x0"), mapOf([]int{0}, 0)), outlookOf(worldOf("1:0,00", nil, "0 f1(x0)=x0"), worldOf("1:00,0", nil, "0 f0(x0)=x0"), mapOf([]int{0}, 1, 0), []impl.Step{stepAt(0, false, 0, x0)}),
			impl.View{Along: mapOf([]int{0}, 1)},
		},
		{
			outlookOf(worldOf("1:0", nil), worldOf("1:0,00", nil), mapOf([]int{0}, 0)), outlookOf(worldOf("1:0,00", nil), worldOf("1:00,0", nil, "0 f0(x0)=x0"), mapOf([]int{0}, 1, 0)),
			impl.View{Along: mapOf([]int{0}, 1)},
		},
		{
			outlookOf(worldOf("2:", nil), worldOf("3:", nil), mapOf([]int{2, 1})), outlookOf(worldOf("3:", nil), worldOf("3:", nil), mapOf([]int{0, 1, 0})),
			impl.View{Along: mapOf([]int{0, 1})},
		},
		// One step in each.
		{
			outlookOf(worldOf("1:0,00", nil, " f1(f0)=f0"), worldOf("1:0,00", nil, "0 f1(x0)=x0"), mapOf([]int{0}, 0, 1), []impl.Step{stepAt(0, false, 0, []int{0})}),
			outlookOf(worldOf("1:0,00", nil, "0 f1(x0)=x0"), worldOf("1:00,0", nil, "00 x1=f0(x1)"), mapOf([]int{0}, 1, 0), []impl.Step{stepAt(0, true, 0, x0, x0)}),
			impl.View{Along: mapOf([]int{0}, 1, 0), Proofs: [][]impl.Step{{stepAt(0, true, 0, one, one)}}},
		},
	} {
		got, ok := impl.ViewThen(c.first.a, c.first.b, c.second.b, c.first.v, c.second.v)
		wantView(t, got, ok, c.want, true, c)
		c.first.checkThen(t, c.second.b, c.second.v)
	}
}

func TestViewsWhoseProofsBecomeTooLong(t *testing.T) {
	// The second view has a proof of so many steps for each step of the first one.
	for each := range 21 {
		second := growing(each)
		if each%2 == 1 {
			continue
		}
		for many := range 21 {
			first := outlookOf(worldOf("1:0,00", nil, " f0=f0"), world{setting{second.a.Over, nil}, second.a}, mapOf([]int{0}, 0, 1), slices.Repeat([]impl.Step{stepAt(0, false, 0)}, many))
			got, ok := impl.ViewThen(first.a, first.b, second.b, first.v, second.v)
			if ok != (each*many <= 20) || ok && len(got.Proofs[0]) != each*many {
				t.Fatal(each, many, got, ok)
			}
			first.checkThen(t, second.b, second.v)
		}
	}
	// Of several axioms one alone, the first one, the one in the middle and the last one.
	second := growing(4)
	for at := range 3 {
		first := outlookOf(worldOf("1:0,00", nil, " f0=f0", " f0=f0", " f0=f0"), world{setting{second.a.Over, nil}, second.a}, mapOf([]int{0}, 0, 1), nil, nil, nil)
		for many := 4; many < 8; many++ {
			first.v = first.withProof(at, slices.Repeat([]impl.Step{stepAt(0, false, 0)}, many))
			if first.checkThen(t, second.b, second.v) != (many <= 5) {
				t.Fatal(at, many)
			}
		}
	}
	// Terms on the way that become too long, in a theory with long axioms.
	for up := range 4 {
		second := lengthening(up)
		for numbers := 26; numbers <= 30; numbers++ {
			e := chainEq(numbers, numbers)
			for _, at := range []int{0, 1, 13, numbers - 1} {
				first := outlook{withAxioms(second.a, e), second.a, impl.View{Along: impl.MapSelf(second.a.Over), Proofs: [][]impl.Step{{stepAt(0, false, at, chain(numbers-at, 100))}}}}
				if first.checkThen(t, second.b, second.v) != (numbers+up <= 30) {
					t.Fatal(up, numbers, at)
				}
			}
		}
	}
}

// noThen fails if there is a view along two of them.
func noThen(t *testing.T, a, b, c impl.Theory, v, w impl.View) {
	t.Helper()
	got, ok := impl.ViewThen(a, b, c, v, w)
	wantView(t, got, ok, impl.View{}, false, a, b, c, v, w)
}

func TestWhatIsNoViewDoesNotFollow(t *testing.T) {
	r := rand.New(rand.NewSource(185))
	for _, o := range append(goodOutlooks(186, 1, 2), cancelling(), merging()) {
		first := outlookOn(r, o.a, 2)
		for _, v := range first.wrongViews() {
			noThen(t, first.a, first.b, o.b, v, o.v)
		}
		// The second one is asked for, though the first theory has no axioms.
		bare := outlook{withAxioms(first.a), first.b, impl.View{Along: first.v.Along}}
		if !bare.checkThen(t, o.b, o.v) {
			t.Fatal("none", bare, o)
		}
		for _, w := range o.wrongViews() {
			noThen(t, first.a, first.b, o.b, first.v, w)
			noThen(t, bare.a, bare.b, o.b, bare.v, w)
		}
		// The views exchanged, as far as they do not fit then.
		first.checkThen(t, o.a, o.v)
		o.checkThen(t, first.b, first.v)
	}
	w := group()
	self := viewSelfByHand(w.t)
	bare := impl.View{Along: self.Along}
	for _, bad := range badTheories() {
		for _, view := range []impl.View{self, {Along: self.Along, Proofs: make([][]impl.Step, len(bad.Axioms))}, {Along: zeroMap(bad.Over), Proofs: make([][]impl.Step, len(bad.Axioms))}, {Along: zeroMap(bad.Over)}, {}} {
			noThen(t, bad, w.t, w.t, view, self)
			noThen(t, w.t, bad, w.t, self, view)
			noThen(t, w.t, bad, w.t, view, view)
			noThen(t, w.t, w.t, bad, self, view)
			noThen(t, bad, bad, bad, view, view)
			noThen(t, withAxioms(w.t), w.t, bad, bare, view)
			noThen(t, withAxioms(w.t), withAxioms(w.t), bad, bare, bare)
			noThen(t, withAxioms(w.t), bad, w.t, bare, view)
		}
	}
	for _, list := range badAxioms(w.s) {
		bad := withAxioms(w.t, list...)
		none := impl.View{Along: self.Along, Proofs: make([][]impl.Step, len(list))}
		noThen(t, bad, w.t, w.t, none, self)
		noThen(t, withAxioms(w.t), bad, w.t, bare, none)
		noThen(t, withAxioms(w.t), withAxioms(w.t), bad, bare, bare)
	}
	noThen(t, impl.Theory{}, impl.Theory{}, impl.Theory{}, impl.View{}, impl.View{})
}
