package tests

import (
	"math/rand"
	"slices"
	"testing"

	"loop.example/theorymodules/impl"
)

// instance returns what InstanceOf returns for a theory that uses another one.
func (u use) instance() (impl.Theory, impl.Map, bool) {
	return impl.InstanceOf(u.a, u.t, u.m, u.b, u.v)
}

// checkModels looks whether every model of an instance becomes a model of the other theory and, along the map, of the theory, and whether what becomes models of both is a model of it; it returns how many models of more than one value there are.
func (u use) checkModels(t *testing.T, r *rand.Rand, x impl.Theory, right impl.Map) int {
	t.Helper()
	sum, left, same, ok := impl.SumOver(u.a.Over, u.b.Over, u.t.Over, u.v.Along, u.m)
	if !ok || !sameSig(sum, x.Over) || !sameMap(same, right) || !impl.TheoryOk(x) || !impl.MapOk(u.t.Over, x.Over, right) {
		t.Fatal("no instance", u, x, right)
	}
	many := 0
	for _, m := range append(smallModels(r, x), manyModels(r, sum, 6)...) {
		first := impl.IsModel(u.b, impl.ModelBack(u.b.Over, sum, left, m))
		second := impl.IsModel(u.t, impl.ModelBack(u.t.Over, sum, right, m))
		if impl.IsModel(x, m) != (first && second) {
			t.Fatal("a model of one alone", u, x, m, first, second)
		}
		if first && second && slices.Max(m.Sizes) > 1 {
			many++
		}
	}
	return many
}

func TestP31ModelsOfTheInstanceAreModelsOfBoth(t *testing.T) {
	r := rand.New(rand.NewSource(200))
	seen := map[bool]int{}
	models, out := 0, 0
	for _, o := range append(goodOutlooks(201, 6, 3), slices.Repeat([]outlook{cancelling(), merging()}, 10)...) {
		for range 2 {
			u := o.anyUse(r)
			ok := u.checkInstance(t)
			seen[ok]++
			if x, right, _ := u.instance(); ok {
				models += u.checkModels(t, r, x, right)
				if len(x.Axioms) < len(u.b.Axioms)+len(u.t.Axioms) {
					out++
				}
			}
		}
	}
	wantSeen(t, seen, 2, 100)
	if models < 1000 || out < 100 {
		t.Fatal(models, out)
	}
}

// An instance of a theory whose part has no axioms is the sum of both, and if the part is all of the theory it is the other theory.
func TestInstancesOfPartsWithoutAxiomsAndOfWholeTheories(t *testing.T) {
	r := rand.New(rand.NewSource(202))
	bare, whole := 0, 0
	for _, o := range goodOutlooks(203, 4, 2) {
		u := o.anyUse(r)
		u.outlook = outlook{withAxioms(o.a), o.b, impl.View{Along: o.v.Along}}
		want, okWant := impl.SumTheory(u.a.Over, u.b, u.t, u.v.Along, u.m)
		_, _, right, _ := impl.SumOver(u.a.Over, u.b.Over, u.t.Over, u.v.Along, u.m)
		if !okWant {
			right = impl.Map{}
		}
		u.wantInstance(t, want, right, okWant)
		bare += len(want.Axioms)
		// Each axiom of the theory once, so that none of them stays.
		all := use{o, withAxioms(o.a), impl.MapSelf(o.a.Over)}
		for _, e := range o.a.Axioms {
			if !slices.ContainsFunc(all.t.Axioms, func(other impl.Eq) bool { return sameEq(other, e) }) {
				all.t.Axioms = append(all.t.Axioms, e)
			}
		}
		once := withAxioms(o.b)
		for _, e := range o.b.Axioms {
			if !slices.ContainsFunc(once.Axioms, func(other impl.Eq) bool { return sameEq(other, e) }) {
				once.Axioms = append(once.Axioms, e)
			}
		}
		all.wantInstance(t, once, o.v.Along, true)
		whole += len(once.Axioms)
	}
	if bare < 100 || whole < 100 {
		t.Fatal(bare, whole)
	}
}

// units returns the outlook of a theory of a unit on the left in one of an operation that may be turned, with a unit on the right.
func units() outlook {
	a := worldOf("1:000,0", nil, "0 f0(f1,x0)=x0")
	b := worldOf("1:00,000,0", nil, "00 f1(x0,x1)=f1(x1,x0)", "0 f1(x0,f2)=x0")
	return outlookOf(a, b, mapOf([]int{0}, 1, 2), []impl.Step{stepAt(0, false, 0, []int{2}, []int{100}), stepAt(1, false, 0, []int{100})})
}

// useOf reads a theory that uses the first one of an outlook, and its map.
func (o outlook) useOf(sig string, m impl.Map, axioms ...string) use {
	return use{o, theoryOver(sigOf(sig), axioms...), m}
}

// instanceCase is a use, and the signature, the axioms and the map of the instance.
type instanceCase struct {
	u      use
	sig    string
	axioms []string
	right  impl.Map
}

// checkInstances compares instances.
func checkInstances(t *testing.T, list []instanceCase) {
	t.Helper()
	for _, c := range list {
		c.u.wantInstance(t, theoryOver(sigOf(c.sig), c.axioms...), c.right, true)
		if !c.u.checkInstance(t) {
			t.Fatal("none", c)
		}
		c.u.checkModels(t, rand.New(rand.NewSource(204)), theoryOver(sigOf(c.sig), c.axioms...), c.right)
	}
}

func TestInstancesOfUnits(t *testing.T) {
	o, unit := units(), "0 f0(f1,x0)=x0"
	m, n := mapOf([]int{0}, 0, 1), mapOf([]int{0}, 1, 2, 3)
	both, sum := []string{"00 f1(x0,x1)=f1(x1,x0)", "0 f1(x0,f2)=x0"}, "1:00,000,0,00"
	checkInstances(t, []instanceCase{
		// The axioms of the other theory, and then those of the theory, but that of the part.
		{o.useOf("1:000,0,00", m, unit, "0 f0(f2(x0),x0)=f1"), sum, append(slices.Clone(both), "0 f1(f3(x0),x0)=f2"), n},
		{o.useOf("1:000,0,00", m, "0 f0(f2(x0),x0)=f1", unit), sum, append(slices.Clone(both), "0 f1(f3(x0),x0)=f2"), n},
		{o.useOf("1:000,0,00", m, "0 f2(x0)=x0", unit, "0 f0(f2(x0),x0)=f1"), sum, append(slices.Clone(both), "0 f3(x0)=x0", "0 f1(f3(x0),x0)=f2"), n},
		{o.useOf("1:000,0,00", m, "0 f0(f2(x0),x0)=f1", "0 f2(x0)=x0", unit), sum, append(slices.Clone(both), "0 f1(f3(x0),x0)=f2", "0 f3(x0)=x0"), n},
		{o.useOf("1:000,0,00", m, unit), sum, both, n},
		// The axiom of the part stands in the theory another time: behind the first one, next to it and behind others.
		{o.useOf("1:000,0,00", m, unit, unit), sum, append(slices.Clone(both), "0 f1(f2,x0)=x0"), n},
		{o.useOf("1:000,0,00", m, unit, "0 f2(x0)=x0", unit), sum, append(slices.Clone(both), "0 f3(x0)=x0", "0 f1(f2,x0)=x0"), n},
		{o.useOf("1:000,0,00", m, unit, unit, unit, "0 f2(x0)=x0", unit), sum, append(slices.Clone(both), "0 f1(f2,x0)=x0", "0 f3(x0)=x0"), n},
		{o.useOf("1:000,0,00", m, unit, "0 x0=f0(f1,x0)"), sum, append(slices.Clone(both), "0 x0=f1(f2,x0)"), n},
		{o.useOf("1:000,0,00", m, unit, "00 f0(f1,x0)=x0"), sum, append(slices.Clone(both), "00 f1(f2,x0)=x0"), n},
		// Axioms that are there already: of the other theory, and of the theory.
		{o.useOf("1:000,0,00", m, "00 f0(x0,x1)=f0(x1,x0)", unit, "0 f0(x0,f1)=x0"), sum, both, n},
		{o.useOf("1:000,0,00", m, "0 f2(x0)=x0", unit, "0 f2(x0)=x0", "00 f0(x0,x1)=f0(x1,x0)"), sum, append(slices.Clone(both), "0 f3(x0)=x0"), n},
		{o.useOf("1:000,0,00", m, "00 f0(x1,x0)=f0(x0,x1)", unit), sum, append(slices.Clone(both), "00 f1(x1,x0)=f1(x0,x1)"), n},
		// Other places of the operations of the part, and none besides.
		{o.useOf("1:0,00,000", mapOf([]int{0}, 2, 0), "0 f2(f0,x0)=x0", "0 f2(x0,x0)=f1(f0)"), sum, append(slices.Clone(both), "0 f1(x0,x0)=f3(f2)"), mapOf([]int{0}, 2, 3, 1)},
		{o.useOf("1:000,0", m, unit), "1:00,000,0", both, mapOf([]int{0}, 1, 2)},
		{o.useOf("1:0,000", mapOf([]int{0}, 1, 0), "0 f1(f0,x0)=x0", " f0=f1(f0,f0)"), "1:00,000,0", append(slices.Clone(both), " f2=f1(f2,f2)"), mapOf([]int{0}, 2, 1)},
		// More sorts in the theory.
		{o.useOf("2:01,111,1", mapOf([]int{1}, 1, 2), "0 f0(x0)=f2", "1 f1(f2,x0)=x0"), "2:00,000,0,10", append(slices.Clone(both), "1 f3(x0)=f2"), mapOf([]int{1, 0}, 3, 1, 2)},
	})
	// An axiom of the other theory that stands twice.
	o.b.Axioms = append(o.b.Axioms, o.b.Axioms...)
	checkInstances(t, []instanceCase{{o.useOf("1:000,0,00", m, unit, "0 f2(x0)=x0"), sum, append(slices.Clone(both), "0 f3(x0)=x0"), n}})
}

func TestInstancesOfOtherParts(t *testing.T) {
	x0 := []int{100}
	self := mapOf([]int{0}, 0, 1, 2)
	// A part of two operations, both of which the map leads to one: two axioms of the part are led to one.
	signs := worldOf("1:00,00,0", nil, "0 f0(f0(x0))=x0", "0 f1(f1(x0))=x0")
	same := outlookOf(signs, worldOf("1:0,00", nil, "0 f1(x0)=x0"), mapOf([]int{0}, 1, 1, 0), []impl.Step{stepAt(0, false, 0, []int{1, 100}), stepAt(0, false, 0, x0)}, []impl.Step{stepAt(0, false, 1, x0), stepAt(0, false, 0, x0)})
	own := outlookOf(signs, signs, self, []impl.Step{stepAt(0, false, 0, x0)}, []impl.Step{stepAt(1, false, 0, x0)})
	// A part without operations, and one of two sorts.
	bare := outlookOf(worldOf("1:", nil), worldOf("2:0,01", nil, "0 f0=x0"), mapOf([]int{1}))
	point := outlookOf(worldOf("1:", nil, "00 x0=x1"), worldOf("1:0,00", nil, "0 x0=f0"), mapOf([]int{0}), []impl.Step{stepAt(0, false, 0, x0), stepAt(0, true, 0, []int{101})})
	pair := outlookOf(worldOf("2:01,10", nil, "0 f1(f0(x0))=x0"), worldOf("1:00", nil, "0 f0(f0(x0))=x0"), mapOf([]int{0, 0}, 0, 0), []impl.Step{stepAt(0, false, 0, x0)})
	checkInstances(t, []instanceCase{
		{same.useOf("1:00,0", mapOf([]int{0}, 0, 0, 1), "0 f0(f0(x0))=x0", "0 f0(x0)=x0"), "1:0,00", []string{"0 f1(x0)=x0"}, mapOf([]int{0}, 1, 0)},
		{same.useOf("1:00,0", mapOf([]int{0}, 0, 0, 1), " f0(f1)=f1", "0 f0(f0(x0))=x0", "0 f0(f0(x0))=x0"), "1:0,00", []string{"0 f1(x0)=x0", " f1(f0)=f0", "0 f1(f1(x0))=x0"}, mapOf([]int{0}, 1, 0)},
		{own.useOf("1:00,0", mapOf([]int{0}, 0, 0, 1), "0 f0(f0(x0))=x0", "0 f0(x0)=x0"), "1:00,0", []string{"0 f0(f0(x0))=x0", "0 f0(x0)=x0"}, mapOf([]int{0}, 0, 1)},
		// Of the other theory two axioms become the same, as the map of the part leads two operations to one.
		{own.useOf("1:00,0,00", mapOf([]int{0}, 2, 2, 1), "0 f0(x0)=x0", "0 f2(f2(x0))=x0"), "1:00,0,00", []string{"0 f0(f0(x0))=x0", "0 f2(x0)=x0"}, mapOf([]int{0}, 2, 1, 0)},
		// The view leads two to one, and of the theory two axioms become the same: one of them is that of the part.
		{same.useOf("1:00,00,0", self, "0 f0(f0(x0))=x0", "0 f1(f1(x0))=x0", "0 f0(x0)=f1(x0)", "0 f1(x0)=f0(x0)", "0 f0(f1(x0))=x0", "0 f1(f0(x0))=x0"), "1:0,00", []string{"0 f1(x0)=x0", "0 f1(x0)=f1(x0)", "0 f1(f1(x0))=x0"}, mapOf([]int{0}, 1, 1, 0)},
		{same.useOf("1:00,00,0", self, "0 f1(f1(x0))=x0", "0 f0(f0(x0))=x0"), "1:0,00", []string{"0 f1(x0)=x0"}, mapOf([]int{0}, 1, 1, 0)},
		// A part that is all of the theory, which goes to the other theory itself.
		{same.useOf("1:00,00,0", self, "0 f0(f0(x0))=x0", "0 f1(f1(x0))=x0"), "1:0,00", []string{"0 f1(x0)=x0"}, mapOf([]int{0}, 1, 1, 0)},
		{own.useOf("1:00,00,0", self, "0 f0(f0(x0))=x0", "0 f1(f1(x0))=x0"), "1:00,00,0", []string{"0 f0(f0(x0))=x0", "0 f1(f1(x0))=x0"}, self},
		{cancelling().useOf("1:00,000", mapOf([]int{0}, 0, 1), "0 f1(f0(x0),f1(x0,x0))=x0"), "1:000,0,00", []string{"000 f0(f0(x0,x1),x2)=f0(x0,f0(x1,x2))", "0 f0(f1,x0)=x0", "0 f0(f2(x0),x0)=f1"}, mapOf([]int{0}, 2, 0)},
		// Parts without operations, and without axioms.
		{bare.useOf("1:00", mapOf([]int{0}), "0 f0(x0)=x0"), "2:0,01,11", []string{"0 f0=x0", "1 f2(x0)=x0"}, mapOf([]int{1}, 2)},
		{bare.useOf("2:01", mapOf([]int{1}), "0 f0(x0)=f0(x0)"), "3:0,01,21", []string{"0 f0=x0", "2 f2(x0)=f2(x0)"}, mapOf([]int{2, 1}, 2)},
		{bare.useOf("1:", mapOf([]int{0})), "2:0,01", []string{"0 f0=x0"}, mapOf([]int{1})},
		{bare.useOf("1:0", mapOf([]int{0}), "0 x0=f0", "0 x0=f0"), "2:0,01,1", []string{"0 f0=x0", "1 x0=f2"}, mapOf([]int{1}, 2)},
		{point.useOf("1:0", mapOf([]int{0}), "00 x0=x1", "0 x0=f0"), "1:0,00,0", []string{"0 x0=f0", "0 x0=f2"}, mapOf([]int{0}, 2)},
		{point.useOf("2:1,0", mapOf([]int{1}), "00 x0=x1", "11 x0=x1", "0 x0=f1"), "2:0,00,0,1", []string{"0 x0=f0", "11 x0=x1", "1 x0=f3"}, mapOf([]int{1, 0}, 2, 3)},
		// The view leads two sorts to one: sorts, operations and axioms of the theory become one.
		{pair.useOf("2:01,10,0,1", mapOf([]int{0, 1}, 0, 1), "0 f1(f0(x0))=x0", "1 f0(f1(x0))=x0", " f0(f2)=f3"), "1:00,0,0", []string{"0 f0(f0(x0))=x0", " f0(f1)=f2"}, mapOf([]int{0, 0}, 0, 0, 1, 2)},
		{pair.useOf("2:01,10", mapOf([]int{0, 1}, 0, 1), "0 x0=x0", "1 x0=x0", "0 f1(f0(x0))=x0"), "1:00", []string{"0 f0(f0(x0))=x0", "0 x0=x0"}, mapOf([]int{0, 0}, 0, 0)},
	})
}

// noInstance fails if there is an instance.
func (u use) noInstance(t *testing.T) {
	t.Helper()
	u.wantInstance(t, impl.Theory{}, impl.Map{}, false)
}

func TestInstancesWithAsMuchAsIsAllowed(t *testing.T) {
	bare := outlookOf(worldOf("1:", nil), worldOf("1:00", nil), mapOf([]int{0}))
	unit := units()
	six := sixEqs(0)
	check := func(u use, want bool) {
		t.Helper()
		if u.checkInstance(t) != want {
			t.Fatal(want, u)
		}
		if !want {
			u.noInstance(t)
		}
	}
	// Axioms: of the theory alone, of both, and such that are not counted, as they are left out or there already.
	for many := range 7 {
		other := bare
		other.b.Axioms = theoryOver(other.b.Over, six[:many]...).Axioms
		for more := range 7 {
			check(other.useOf("1:00", mapOf([]int{0}), six[:more]...), many+more <= 6)
		}
		self := outlook{other.b, other.b, viewSelfByHand(other.b)}
		check(self.useOf("1:00", mapOf([]int{0}, 0), six[:many]...), true)
		check(self.useOf("1:00", mapOf([]int{0}, 0), six...), true)
		check(self.useOf("1:00,0", mapOf([]int{0}, 0), slices.Concat(six[:many], []string{"0 f1=x0", "0 x0=f1", "0 f1=f0(x0)"}[:min(3, 6-many)])...), true)
	}
	check(unit.useOf("1:000,0,00", mapOf([]int{0}, 0, 1), "0 f0(f1,x0)=x0", "0 f2(x0)=x0", "0 x0=f2(x0)", "0 f2(f2(x0))=x0", "0 x0=f2(f2(x0))"), true)
	check(unit.useOf("1:000,0,00", mapOf([]int{0}, 0, 1), "0 f0(f1,x0)=x0", "0 f2(x0)=x0", "0 x0=f2(x0)", "0 f2(f2(x0))=x0", "0 x0=f2(f2(x0))", "0 f2(x0)=f2(x0)"), false)
	check(unit.useOf("1:000,0,00", mapOf([]int{0}, 0, 1), "0 f0(f1,x0)=x0", "0 f2(x0)=x0", "0 x0=f2(x0)", "0 f2(f2(x0))=x0", "0 x0=f2(f2(x0))", "0 f0(f1,x0)=x0"), false)
	check(unit.useOf("1:000,0,00", mapOf([]int{0}, 0, 1), "0 f0(f1,x0)=x0", "0 f2(x0)=x0", "0 x0=f2(x0)", "0 f2(f2(x0))=x0", "0 x0=f2(f2(x0))", "0 f0(x0,f1)=x0"), true)
	// Sorts and operations.
	for sorts := 1; sorts <= 3; sorts++ {
		other := outlook{impl.Theory{Over: sigOf("1:")}, impl.Theory{Over: impl.Sig{Sorts: sorts}}, impl.View{Along: mapOf([]int{sorts - 1})}}
		for more := 1; more <= 3; more++ {
			check(use{other, impl.Theory{Over: impl.Sig{Sorts: more}}, mapOf([]int{0})}, sorts+more-1 <= 3)
		}
	}
	for ops := range 7 {
		other := outlook{impl.Theory{Over: sigOf("1:")}, impl.Theory{Over: constants(1, ops)}, impl.View{Along: mapOf([]int{0})}}
		for more := range 7 {
			check(use{other, impl.Theory{Over: constants(1, more)}, mapOf([]int{0})}, ops+more <= 6)
			if ops > 0 && more > 0 {
				one := outlook{impl.Theory{Over: constants(1, 1)}, other.b, impl.View{Along: mapOf([]int{0}, ops-1)}}
				check(use{one, impl.Theory{Over: constants(1, more)}, mapOf([]int{0}, 0)}, ops+more <= 7)
			}
		}
	}
}

func TestInstancesOfMapsThatLeadAxiomsToNone(t *testing.T) {
	o := units()
	m := mapOf([]int{0}, 0, 1)
	good := o.useOf("1:000,0,0,00", m, "0 f0(f2,x0)=x0", "0 f0(f1,x0)=x0")
	if !good.checkInstance(t) {
		t.Fatal("none", good)
	}
	// There is an axiom that is the same along another map, turned, with more letters, and none.
	good.m = mapOf([]int{0}, 0, 2)
	if !good.checkInstance(t) {
		t.Fatal("none", good)
	}
	for _, axioms := range [][]string{nil, {"0 f0(f2,x0)=x0"}, {"0 x0=f0(f1,x0)"}, {"00 f0(f1,x0)=x0"}, {"00 f0(f1,x1)=x1"}, {"0 f0(x0,f1)=x0"}} {
		o.useOf("1:000,0,0,00", m, axioms...).noInstance(t)
	}
	// The first one, the one in the middle and the last one of the part have none.
	part := group()
	three := outlook{part.t, part.t, viewSelfByHand(part.t)}
	for at := range 3 {
		u := use{three, withAxioms(part.t, slices.Delete(slices.Clone(part.t.Axioms), at, at+1)...), impl.MapSelf(part.s)}
		u.noInstance(t)
		u.t = part.t
		if !u.checkInstance(t) {
			t.Fatal("none", u)
		}
	}
}

func TestInstancesOfWhatIsNotOk(t *testing.T) {
	r := rand.New(rand.NewSource(205))
	for _, o := range append(goodOutlooks(206, 1, 2), cancelling(), merging(), units()) {
		u := o.goodUse(r)
		bare := use{outlook{withAxioms(o.a), o.b, impl.View{Along: o.v.Along}}, withAxioms(u.t), u.m}
		if !bare.checkInstance(t) {
			t.Fatal("none", bare)
		}
		for _, v := range o.wrongViews() {
			use{outlook{o.a, o.b, v}, u.t, u.m}.noInstance(t)
		}
		for _, v := range bare.wrongViews() {
			use{outlook{bare.a, bare.b, v}, bare.t, bare.m}.noInstance(t)
		}
		for _, m := range wrongLeads(road{u.a.Over, u.t.Over, u.m}) {
			use{o, u.t, m}.noInstance(t)
			use{bare.outlook, bare.t, m}.noInstance(t)
		}
	}
	w := group()
	self := viewSelfByHand(w.t)
	three := outlook{w.t, w.t, self}
	bare := outlook{withAxioms(w.t), withAxioms(w.t), impl.View{Along: self.Along}}
	for _, bad := range badTheories() {
		zero := zeroMap(bad.Over)
		for _, m := range []impl.Map{self.Along, zero, {}} {
			use{outlook{bad, w.t, self}, w.t, m}.noInstance(t)
			use{outlook{bad, bad, self}, bad, m}.noInstance(t)
			use{outlook{bad, bad, impl.View{}}, bad, m}.noInstance(t)
			use{outlook{w.t, bad, self}, w.t, m}.noInstance(t)
			use{outlook{bare.a, bad, bare.v}, bare.a, m}.noInstance(t)
			use{outlook{bare.a, bad, impl.View{Along: zero}}, bare.a, m}.noInstance(t)
			use{three, bad, m}.noInstance(t)
			use{bare, bad, m}.noInstance(t)
		}
	}
	for _, list := range badAxioms(w.s) {
		bad := withAxioms(w.t, list...)
		use{outlook{bad, w.t, impl.View{Along: self.Along, Proofs: make([][]impl.Step, len(list))}}, w.t, self.Along}.noInstance(t)
		use{outlook{bad, bad, impl.View{Along: self.Along, Proofs: make([][]impl.Step, len(list))}}, bad, self.Along}.noInstance(t)
		use{outlook{bare.a, bad, bare.v}, w.t, self.Along}.noInstance(t)
		use{bare, bad, self.Along}.noInstance(t)
	}
	use{}.noInstance(t)
}
