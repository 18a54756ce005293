package tests

import (
	"math"
	"math/rand"
	"slices"
	"testing"

	"loop.example/theorymodules/impl"
)

// checkAxioms compares the axioms to which those of a theory are led with what the document tells.
func checkAxioms(t *testing.T, a, b impl.Theory, m impl.Map) bool {
	t.Helper()
	want, wantOk := mapAxiomsByHand(a, b, m)
	got, ok := impl.MapAxioms(a, b, m)
	wantRow(t, got, ok, want, wantOk, a, b, m)
	return ok
}

// withAxioms returns a theory with other axioms.
func withAxioms(t impl.Theory, axioms ...impl.Eq) impl.Theory {
	return impl.Theory{Over: t.Over, Axioms: axioms}
}

func TestP64TheoriesGoToThemselves(t *testing.T) {
	r := rand.New(rand.NewSource(46))
	for _, w := range worlds() {
		self := impl.MapSelf(w.s)
		if !checkAxioms(t, w.t, w.t, self) {
			t.Fatal("not led", w)
		}
		if len(w.t.Axioms) == 0 {
			continue
		}
		// Some axioms twice and more often: each goes to the first one that is the same.
		for range 5 {
			more := withAxioms(w.t)
			for range 2 + r.Intn(5) {
				more.Axioms = append(more.Axioms, w.t.Axioms[r.Intn(min(len(w.t.Axioms), 3))])
			}
			list, ok := impl.MapAxioms(more, more, self)
			if !ok || len(list) != len(more.Axioms) {
				t.Fatal(more, list, ok)
			}
			for i, e := range more.Axioms {
				first := slices.IndexFunc(more.Axioms, func(other impl.Eq) bool { return sameEq(other, e) })
				if list[i] != first {
					t.Fatal(more, list, i, first)
				}
			}
		}
	}
}

func TestAxiomsOfTheoriesWithTheSameOnes(t *testing.T) {
	w := group()
	self := impl.MapSelf(w.s)
	one, two, three := w.t.Axioms[0], w.t.Axioms[1], w.t.Axioms[2]
	for _, c := range []struct {
		a, b []impl.Eq
		want []int
	}{
		{nil, nil, nil},
		{nil, w.t.Axioms, nil},
		{[]impl.Eq{}, []impl.Eq{}, nil},
		{w.t.Axioms, w.t.Axioms, []int{0, 1, 2}},
		{w.t.Axioms, []impl.Eq{three, one, two}, []int{1, 2, 0}},
		{[]impl.Eq{one, one}, []impl.Eq{one, one}, []int{0, 0}},
		{[]impl.Eq{one, two, one, two}, []impl.Eq{one, two, one, two}, []int{0, 1, 0, 1}},
		{[]impl.Eq{two, two, two, one, one, three}, []impl.Eq{two, two, two, one, one, three}, []int{0, 0, 0, 3, 3, 5}},
		{[]impl.Eq{two}, []impl.Eq{one, three, two, one, two, two}, []int{2}},
		{[]impl.Eq{two}, []impl.Eq{turned(two), one, two}, []int{2}},
		{[]impl.Eq{two, turned(two)}, []impl.Eq{turned(two), two}, []int{1, 0}},
	} {
		got, ok := impl.MapAxioms(withAxioms(w.t, c.a...), withAxioms(w.t, c.b...), self)
		wantRow(t, got, ok, c.want, true, c)
	}
	for _, c := range []struct{ a, b []impl.Eq }{
		{[]impl.Eq{one}, nil},
		{[]impl.Eq{one}, []impl.Eq{two}},
		// The first one, the one in the middle and the last one have none.
		{w.t.Axioms, []impl.Eq{two, three}},
		{w.t.Axioms, []impl.Eq{one, three}},
		{w.t.Axioms, []impl.Eq{one, two}},
		{w.t.Axioms, []impl.Eq{one, two, turned(three)}},
		{[]impl.Eq{turned(one)}, []impl.Eq{one}},
	} {
		got, ok := impl.MapAxioms(withAxioms(w.t, c.a...), withAxioms(w.t, c.b...), self)
		wantRow(t, got, ok, nil, false, c)
	}
}

func TestAxiomsThatAreNearlyTheSame(t *testing.T) {
	s := sigOf("2:000,0,00,1,11")
	self := impl.MapSelf(s)
	texts := []string{
		"00 f0(x0,x1)=f0(x1,x0)",
		"00 f0(x1,x0)=f0(x0,x1)",
		"000 f0(x0,x1)=f0(x1,x0)",
		"001 f0(x0,x1)=f0(x1,x0)",
		"00 f0(x0,x1)=f0(x0,x1)",
		"00 f0(x0,x1)=f0(x1,x1)",
		" f1=f1",
		"0 f1=f1",
		"1 f1=f1",
		"01 f1=f1",
		"10 f1=f1",
		"0 x0=x0",
		"1 x0=x0",
		"0 f1=x0",
		"0 x0=f1",
		"0 f1=f2(x0)",
		"0 f1=f2(f1)",
		" f1=f2(f1)",
	}
	for i, one := range texts {
		for j, other := range texts {
			a := impl.Theory{Over: s, Axioms: []impl.Eq{eqOf(s, one)}}
			b := impl.Theory{Over: s, Axioms: []impl.Eq{eqOf(s, other)}}
			got, ok := impl.MapAxioms(a, b, self)
			if i == j {
				wantRow(t, got, ok, []int{0}, true, one)
			} else {
				wantRow(t, got, ok, nil, false, one, other)
			}
		}
	}
}

// twoToOne returns a road that leads both sorts and two operations to one, a world with axioms of which two become one, and what they become.
func twoToOne() (road, world, world) {
	x := roadOf("2:010,1,1,00", "1:00,0,000,00", []int{0, 0}, []int{2, 1, 1, 3})
	a := worldOf("2:010,1,1,00", []int{0, 1}, "0 f0(x0,f1)=x0", "0 f0(x0,f2)=x0", "01 f0(x0,x1)=f3(x0)", "1 x0=f1")
	b := worldOf("1:00,0,000,00", []int{0, 0}, "0 x0=f1", "00 f2(x0,x1)=f3(x0)", "0 f0(x0)=x0", "0 f2(x0,f1)=x0", "0 x0=f1")
	return x, a, b
}

func TestAxiomsThatBecomeOne(t *testing.T) {
	x, a, b := twoToOne()
	got, ok := impl.MapAxioms(a.t, b.t, x.m)
	wantRow(t, got, ok, []int{3, 3, 1, 0}, true)
	// What the axioms are before they are led is not asked.
	got, ok = impl.MapAxioms(a.t, withAxioms(b.t, b.t.Axioms[:3]...), x.m)
	wantRow(t, got, ok, nil, false)
	got, ok = impl.MapAxioms(withAxioms(a.t, a.t.Axioms[2:]...), withAxioms(b.t, b.t.Axioms[:3]...), x.m)
	wantRow(t, got, ok, []int{1, 0}, true)
	// There is an axiom with the same numbers, and one that is this axiom along another map.
	same := withAxioms(a.t, a.t.Axioms[0])
	other := impl.Theory{Over: a.s, Axioms: []impl.Eq{eqOf(a.s, "0 f0(x0,f2)=x0"), a.t.Axioms[0]}}
	got, ok = impl.MapAxioms(same, other, impl.MapSelf(a.s))
	wantRow(t, got, ok, []int{1}, true)
	got, ok = impl.MapAxioms(same, other, impl.Map{Sorts: []int{0, 1}, Ops: []int{0, 2, 1, 3}})
	wantRow(t, got, ok, []int{0}, true)
	// No operations, and letters of two sorts that become letters of one.
	none := impl.Theory{Over: sigOf("2:"), Axioms: []impl.Eq{eqOf(sigOf("2:"), "010 x0=x2"), eqOf(sigOf("2:"), "101 x0=x2")}}
	one := impl.Theory{Over: sigOf("1:"), Axioms: []impl.Eq{eqOf(sigOf("1:"), "000 x0=x1"), eqOf(sigOf("1:"), "000 x0=x2")}}
	got, ok = impl.MapAxioms(none, one, impl.Map{Sorts: []int{0, 0}})
	wantRow(t, got, ok, []int{1, 1}, true)
	got, ok = impl.MapAxioms(impl.Theory{Over: sigOf("3:")}, one, impl.Map{Sorts: []int{0, 0, 0}})
	wantRow(t, got, ok, nil, true)
}

func TestAxiomsByChance(t *testing.T) {
	r := rand.New(rand.NewSource(47))
	seen := map[bool]int{}
	for _, w := range worlds() {
		for range 20 {
			x := anyRoad(r, w.s)
			led := ledTheory(r, x, w.t)
			if r.Intn(3) == 0 && len(led.Axioms) > 0 {
				led.Axioms[r.Intn(len(led.Axioms))] = turned(led.Axioms[r.Intn(len(led.Axioms))])
			}
			if r.Intn(3) == 0 && len(led.Axioms) > 0 {
				led.Axioms = append(led.Axioms, led.Axioms[r.Intn(len(led.Axioms))])
			}
			ok := checkAxioms(t, w.t, led, anyMap(r, x))
			seen[ok && len(w.t.Axioms) > 0]++
		}
	}
	if seen[true] < 100 || seen[false] < 100 {
		t.Fatal(seen)
	}
}

func TestAxiomsOfWhatIsNotOk(t *testing.T) {
	w := group()
	self := impl.MapSelf(w.s)
	e := w.t.Axioms[1]
	steps := []impl.Step{stepAt(1, false, 0, []int{100})}
	refuse := func(a, b impl.Theory, m impl.Map) {
		t.Helper()
		got, ok := impl.MapAxioms(a, b, m)
		wantRow(t, got, ok, nil, false, a, b, m)
		for _, some := range [][]impl.Step{nil, steps} {
			for _, other := range []impl.Eq{e, {Vars: e.Vars, Left: e.Right, Right: e.Right}} {
				led, ok := impl.MapProof(a, b, m, other, some)
				wantSteps(t, led, ok, nil, false, a, b, m, other, some)
			}
		}
	}
	for _, bad := range badTheories() {
		for _, m := range []impl.Map{self, {Sorts: []int{0}}, {}, zeroMap(bad.Over)} {
			refuse(bad, bad, m)
			refuse(bad, w.t, m)
			refuse(w.t, bad, m)
			refuse(withAxioms(w.t), bad, m)
			refuse(bad, withAxioms(w.t), m)
		}
	}
	for _, m := range []impl.Map{
		{},
		{Sorts: []int{0}},
		{Ops: []int{0, 1, 2}},
		{Sorts: []int{0, 0}, Ops: []int{0, 1, 2}},
		{Sorts: []int{0}, Ops: []int{0, 1}},
		{Sorts: []int{0}, Ops: []int{0, 1, 2, 2}},
		{Sorts: []int{1}, Ops: []int{0, 1, 2}},
		{Sorts: []int{-1}, Ops: []int{0, 1, 2}},
		{Sorts: []int{0}, Ops: []int{0, 2, 1}},
		{Sorts: []int{0}, Ops: []int{0, 1, -1}},
		{Sorts: []int{0}, Ops: []int{0, 1, 3}},
		{Sorts: []int{0}, Ops: []int{0, 1, math.MaxInt}},
		{Sorts: []int{math.MinInt}, Ops: []int{0, 1, 2}},
	} {
		refuse(w.t, w.t, m)
		refuse(withAxioms(w.t), w.t, m)
		refuse(withAxioms(w.t), withAxioms(w.t), m)
	}
}

// checkLed compares a proof along a map with what the document tells, and looks whether it proves the equation along the map; it reports whether there is one.
func checkLed(t *testing.T, a, b impl.Theory, m impl.Map, e impl.Eq, steps []impl.Step) bool {
	t.Helper()
	want, wantOk := mapProofByHand(a, b, m, e, steps)
	led, ok := impl.MapProof(a, b, m, e, steps)
	wantSteps(t, led, ok, want, wantOk, a, b, m, e, steps)
	if !ok {
		return false
	}
	other, okEq := impl.MapEq(a.Over, b.Over, m, e)
	if _, proved := proofByHand(b, other, led); !okEq || !proved || !impl.ProofOk(b, other, led) {
		t.Fatal("not proved", a, b, m, e, steps, led)
	}
	return true
}

func TestP12ProofsGoAlong(t *testing.T) {
	r := rand.New(rand.NewSource(48))
	led, more := 0, 0
	for i, w := range worlds() {
		list := w.pool(int64(i+3100), 20)
		for _, u := range list {
			x := anyRoad(r, w.s)
			other := ledTheory(r, x, w.t)
			steps, e := w.walk(r, u, r.Intn(8), list)
			if checkLed(t, w.t, other, x.m, e, steps) {
				led += len(steps)
			}
			if checkLed(t, w.t, other, x.m, turned(e), backByHand(steps)) {
				more += len(steps)
			}
			if !checkLed(t, w.t, w.t, impl.MapSelf(w.s), e, steps) {
				t.Fatal("not led to itself", w, e, steps)
			}
			checkLed(t, w.t, other, x.m, e, nil)
			checkLed(t, w.t, other, x.m, turned(e), steps)
			checkLed(t, w.t, other, x.m, impl.Eq{Vars: e.Vars, Left: u, Right: u}, nil)
			checkLed(t, w.t, other, x.m, e, anyChange(r, steps, list))
			checkLed(t, w.t, w.t, anyMap(r, x), e, steps)
			checkLed(t, w.t, other, anyMap(r, x), e, steps)
		}
	}
	if led < 300 || more < 300 {
		t.Fatal(led, more)
	}
}

func TestProofsAlongMaps(t *testing.T) {
	x, a, b := twoToOne()
	for _, c := range []struct {
		e        string
		steps    []impl.Step
		to       string
		ledSteps []impl.Step
	}{
		// No steps.
		{"01 f0(x0,x1)=f0(x0,x1)", nil, "00 f2(x0,x1)=f2(x0,x1)", nil},
		{" f1=f1", []impl.Step{}, " f1=f1", nil},
		{"0 x0=x0", nil, "0 x0=x0", nil},
		// Both axioms go to one.
		{"0 f0(x0,f1)=x0", []impl.Step{stepAt(0, false, 0, []int{100})}, "0 f2(x0,f1)=x0", []impl.Step{stepAt(3, false, 0, []int{100})}},
		{"0 f0(x0,f2)=x0", []impl.Step{stepAt(1, false, 0, []int{100})}, "0 f2(x0,f1)=x0", []impl.Step{stepAt(3, false, 0, []int{100})}},
		{"0 f0(x0,f1)=f0(x0,f2)", []impl.Step{stepAt(0, false, 0, []int{100}), stepAt(1, true, 0, []int{100})}, "0 f2(x0,f1)=f2(x0,f1)", []impl.Step{stepAt(3, false, 0, []int{100}), stepAt(3, true, 0, []int{100})}},
		// Places behind others, and terms with operations.
		{"01 f0(f0(x0,f1),x1)=f0(x0,x1)", []impl.Step{stepAt(0, false, 1, []int{100})}, "00 f2(f2(x0,f1),x1)=f2(x0,x1)", []impl.Step{stepAt(3, false, 1, []int{100})}},
		{"01 f0(x0,x1)=f0(f0(x0,f2),f1)", []impl.Step{stepAt(1, true, 1, []int{100}), stepAt(3, false, 4, []int{101})}, "00 f2(x0,x1)=f2(f2(x0,f1),f1)", []impl.Step{stepAt(3, true, 1, []int{100}), stepAt(0, false, 4, []int{101})}},
		{"01 f0(f3(x0),f2)=f3(f3(x0))", []impl.Step{stepAt(2, false, 0, []int{3, 100}, []int{2})}, "00 f2(f3(x0),f1)=f3(f3(x0))", []impl.Step{stepAt(1, false, 0, []int{3, 100}, []int{1})}},
		{"0 f3(f0(x0,f1))=f0(f0(x0,f1),f2)", []impl.Step{stepAt(2, true, 0, []int{0, 100, 1}, []int{2})}, "0 f3(f2(x0,f1))=f2(f2(x0,f1),f1)", []impl.Step{stepAt(1, true, 0, []int{2, 100, 1}, []int{1})}},
		{" f1=f2", []impl.Step{stepAt(3, true, 0, []int{2})}, " f1=f1", []impl.Step{stepAt(0, true, 0, []int{1})}},
	} {
		e := eqOf(a.s, c.e)
		wantEq(t, x, e, eqOf(b.s, c.to), true)
		got, ok := impl.MapProof(a.t, b.t, x.m, e, c.steps)
		wantSteps(t, got, ok, c.ledSteps, true, c)
		if !checkLed(t, a.t, b.t, x.m, e, c.steps) {
			t.Fatal("not led", c)
		}
	}
}

func TestStepsWithoutTermsGoAlong(t *testing.T) {
	x := roadOf("2:0,0,00,1", "1:00,0,0", []int{0, 0}, []int{1, 2, 0, 1})
	a := worldOf("2:0,0,00,1", nil, " f0=f2(f1)", " f1=f2(f0)")
	b := worldOf("1:00,0,0", nil, " f2=f0(f1)", " f1=f0(f2)")
	steps := []impl.Step{stepAt(0, false, 1), {Axiom: 1, At: 2, Terms: [][]int{}}, stepAt(0, false, 3)}
	want := []impl.Step{stepAt(1, false, 1), stepAt(0, false, 2), stepAt(1, false, 3)}
	for _, text := range []string{" f2(f0)=f2(f2(f2(f2(f1))))", "0110 f2(f0)=f2(f2(f2(f2(f1))))"} {
		e := eqOf(a.s, text)
		got, ok := impl.MapProof(a.t, b.t, x.m, e, steps)
		wantSteps(t, got, ok, want, true, text)
		if !checkLed(t, a.t, b.t, x.m, e, steps) || !checkLed(t, a.t, b.t, x.m, turned(e), backByHand(steps)) {
			t.Fatal("not led", text)
		}
	}
	// A theory without axioms, and signatures without operations.
	empty := impl.Theory{Over: a.s}
	if !checkLed(t, empty, b.t, x.m, eqOf(a.s, " f2(f0)=f2(f0)"), nil) || checkLed(t, empty, b.t, x.m, eqOf(a.s, " f2(f0)=f0"), nil) {
		t.Fatal("without axioms")
	}
	none := worldOf("2:", []int{0, 1, 0}, "00 x0=x1")
	one := worldOf("1:", nil, "0 x0=x0", "00 x0=x1")
	e := impl.Eq{Vars: none.vars, Left: []int{100}, Right: []int{102}}
	got, ok := impl.MapProof(none.t, one.t, impl.Map{Sorts: []int{0, 0}}, e, []impl.Step{stepAt(0, false, 0, []int{100}, []int{102})})
	wantSteps(t, got, ok, []impl.Step{stepAt(1, false, 0, []int{100}, []int{102})}, true)
}

func TestProofsThatDoNotGoAlong(t *testing.T) {
	x, a, b := twoToOne()
	e := eqOf(a.s, "0 f0(x0,f1)=x0")
	steps := []impl.Step{stepAt(0, false, 0, []int{100})}
	if !checkLed(t, a.t, b.t, x.m, e, steps) {
		t.Fatal("not led")
	}
	refuse := func(a, b impl.Theory, m impl.Map, e impl.Eq, steps []impl.Step) {
		t.Helper()
		led, ok := impl.MapProof(a, b, m, e, steps)
		wantSteps(t, led, ok, nil, false, a, b, m, e, steps)
	}
	// What proves nothing, though some of it becomes a proof.
	for _, some := range [][]impl.Step{
		nil,
		{stepAt(1, false, 0, []int{100})},
		{stepAt(0, true, 0, []int{100})},
		{stepAt(0, false, 1, []int{100})},
		{stepAt(0, false, 0, []int{1})},
		{stepAt(0, false, 0)},
		{stepAt(0, false, 0, []int{100}, []int{100})},
		{stepAt(3, false, 0, []int{100})},
		{stepAt(4, false, 0, []int{100})},
		{stepAt(-1, false, 0, []int{100})},
		{stepAt(math.MaxInt, false, 0, []int{100})},
		{stepAt(0, false, math.MinInt, []int{100})},
		{steps[0], steps[0]},
		slices.Repeat(steps, 100),
	} {
		refuse(a.t, b.t, x.m, e, some)
	}
	for _, other := range []impl.Eq{
		turned(e), {}, {Vars: e.Vars}, eqOf(a.s, "00 f0(x1,f1)=x0"), eqOf(a.s, "0 f0(x0,f1)=f0(x0,f1)"), eqOf(a.s, "0 f0(x0,f2)=x0"),
		{Vars: []int{0, 0, 0, 0, 0}, Left: e.Left, Right: e.Right}, {Vars: []int{2}, Left: e.Left, Right: e.Right}, {Left: e.Left, Right: e.Right},
	} {
		refuse(a.t, b.t, x.m, other, steps)
	}
	// This proves the equation along the map, and not the equation.
	refuse(a.t, b.t, x.m, eqOf(a.s, "0 f0(x0,f2)=x0"), steps)
	refuse(a.t, b.t, x.m, eqOf(a.s, " f1=f2"), nil)
	// An axiom that is not led to one, though no step takes it.
	refuse(a.t, withAxioms(b.t, b.t.Axioms[1:4]...), x.m, e, steps)
	refuse(a.t, withAxioms(b.t), x.m, e, steps)
	refuse(a.t, withAxioms(b.t), x.m, impl.Eq{Vars: e.Vars, Left: e.Left, Right: e.Left}, nil)
	for _, m := range wrongMaps(x) {
		refuse(a.t, b.t, m, e, steps)
		refuse(a.t, b.t, m, impl.Eq{Vars: e.Vars, Left: e.Left, Right: e.Left}, nil)
	}
	// 20 steps go along, and 21 are no proof.
	for many := range 24 {
		w := worldOf("1:000,0,00", nil, "0 x0=f2(x0)")
		y := impl.Eq{Left: []int{1}, Right: [][]int{{1}, {2, 1}}[many%2]}
		if checkLed(t, w.t, w.t, impl.MapSelf(w.s), y, toAndFro(many)) != (many <= 20) {
			t.Fatal(many, "steps")
		}
	}
}
