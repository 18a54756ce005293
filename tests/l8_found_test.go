package tests

import (
	"math/rand"
	"slices"
	"testing"

	"loop.example/theorymodules/impl"
)

func TestP30WhatIsFoundIsAView(t *testing.T) {
	r := rand.New(rand.NewSource(190))
	seen := map[bool]int{}
	for _, o := range append(goodOutlooks(191, 3, 3), cancelling(), merging()) {
		seen[o.checkFound(t)]++
		p := o.anyOther(r)
		p.b = o.b
		seen[p.checkFound(t)]++
		if len(o.b.Axioms) > 0 {
			at := r.Intn(len(o.b.Axioms))
			seen[outlook{o.a, withAxioms(o.b, o.b.Axioms[:at]...), o.v}.checkFound(t)]++
		}
	}
	wantSeen(t, seen, 2, 60)
}

// Where each axiom is one of the second theory along the map, turned or not, it is proved by it.
func TestAxiomsThatAreThereAlongTheMap(t *testing.T) {
	r := rand.New(rand.NewSource(192))
	many := 0
	for _, w := range worlds() {
		for range 3 {
			x := anyRoad(r, w.s)
			b := ledTheory(r, x, w.t)
			o := outlook{w.t, withAxioms(b, slices.Clone(b.Axioms)...), impl.View{Along: x.m}}
			turn := r.Intn(2) == 0
			for i, e := range o.b.Axioms {
				if turn {
					o.b.Axioms[i] = turned(e)
				}
			}
			o.checkFound(t)
			// Letters that stand on the right side only are not put there by the search.
			if slices.ContainsFunc(o.a.Axioms, func(e impl.Eq) bool {
				return !o.hasAxiom(e, turn) || len(e.Right) > 12 || slices.ContainsFunc(e.Right, func(number int) bool { return number >= 100 && !slices.Contains(e.Left, number) })
			}) {
				continue
			}
			many++
			found, ok := impl.ViewFind(o.a, o.b, x.m)
			if !ok || slices.ContainsFunc(found.Proofs, func(steps []impl.Step) bool { return len(steps) > 1 }) {
				t.Fatal("not found, or with more than one step", o, found)
			}
		}
	}
	if many < 60 {
		t.Fatal(many)
	}
}

// hasAxiom reports whether the second theory of an outlook has an equation along the map, turned or not.
func (o outlook) hasAxiom(e impl.Eq, turn bool) bool {
	led := o.led(e)
	if turn {
		led = turned(led)
	}
	return slices.ContainsFunc(o.b.Axioms, func(other impl.Eq) bool { return sameEq(other, led) })
}

func TestViewsThatAreFound(t *testing.T) {
	x0, x1, x2 := []int{100}, []int{101}, []int{102}
	c := cancelling()
	self := mapOf([]int{0}, 0, 1, 2)
	bare := worldOf("1:000,0,00", nil)
	right := worldOf("1:000,0,00", nil, "0 f0(x0,f1)=x0", "00 f0(x0,x1)=f0(x1,x0)")
	two := worldOf("2:01,10", nil, "0 f1(f0(x0))=x0", "1 x0=f0(f1(x0))")
	one := worldOf("1:00", nil, "0 f0(f0(x0))=x0")
	for _, c := range []struct {
		o     outlook
		want  [][]impl.Step
		found bool
	}{
		{c, c.v.Proofs, true},
		// Axioms that are the same along the map as one of the second theory, turned and not, and such that are not the first ones.
		{outlookOf(group(), group(), self), [][]impl.Step{{stepAt(0, false, 0, x0, x1, x2)}, {stepAt(1, false, 0, x0)}, {stepAt(2, false, 0, x0)}}, true},
		{outlookOf(worldOf("1:000,0,00", nil, "0 x0=f0(f1,x0)", "000 f0(x0,f0(x1,x2))=f0(f0(x0,x1),x2)"), group(), self), [][]impl.Step{{stepAt(1, true, 0, x0)}, {stepAt(0, true, 0, x0, x1, x2)}}, true},
		{outlookOf(worldOf("1:000,0,00", nil, "0 f1=f0(f2(x0),x0)"), group(), self), nil, false},
		{outlookOf(worldOf("1:000", nil, "00 f0(x1,x0)=f0(x0,x1)"), right, mapOf([]int{0}, 0)), [][]impl.Step{{stepAt(1, false, 0, x1, x0)}}, true},
		// An axiom that stands twice is proved by the first one that is tried.
		{outlookOf(worldOf("1:00,0", nil, " f1=f0(f1)"), worldOf("1:00,0", nil, " f1=f0(f1)", " f1=f0(f1)"), mapOf([]int{0}, 0, 1)), [][]impl.Step{{stepAt(0, false, 0)}}, true},
		{outlookOf(worldOf("1:00,0", nil, " f0(f1)=f1", " f1=f0(f1)"), worldOf("1:00,0", nil, " f1=f0(f1)", " f0(f1)=f1"), mapOf([]int{0}, 0, 1)), [][]impl.Step{{stepAt(0, true, 0)}, {stepAt(0, false, 0)}}, true},
		// Proofs of several steps, and none at all.
		{outlookOf(worldOf("1:000,0", nil, "0 f0(f1,x0)=x0", "0 f0(f0(f1,x0),f1)=x0"), right, mapOf([]int{0}, 0, 1)), [][]impl.Step{{stepAt(1, false, 0, []int{1}, x0), stepAt(0, false, 0, x0)}, {stepAt(0, false, 0, []int{0, 1, 100}), stepAt(1, false, 0, []int{1}, x0), stepAt(0, false, 0, x0)}}, true},
		{outlookOf(worldOf("1:000,0", nil, "0 f0(f1,x0)=x0", "000 f0(f0(x0,x1),x2)=f0(x0,f0(x1,x2))"), right, mapOf([]int{0}, 0, 1)), nil, false},
		{outlookOf(worldOf("1:000,0", nil, "000 f0(f0(x0,x1),x2)=f0(x0,f0(x1,x2))", "0 f0(f1,x0)=x0"), right, mapOf([]int{0}, 0, 1)), nil, false},
		{outlookOf(worldOf("1:000,0", nil, "00 x0=x1"), right, mapOf([]int{0}, 0, 1)), nil, false},
		// The same along the map: no step.
		{outlookOf(worldOf("1:0,0", nil, " f0=f1", "0 x0=x0"), bare, mapOf([]int{0}, 1, 1)), [][]impl.Step{nil, nil}, true},
		{outlookOf(worldOf("1:0,0", nil, " f0=f1", "0 x0=f0"), bare, mapOf([]int{0}, 1, 1)), nil, false},
		// Two sorts and two operations to one.
		{outlookOf(two, one, mapOf([]int{0, 0}, 0, 0)), [][]impl.Step{{stepAt(0, false, 0, x0)}, {stepAt(0, true, 0, x0)}}, true},
		{outlookOf(one, two, mapOf([]int{0}, 0)), nil, false},
		// Without axioms, on one side and on both.
		{outlookOf(bare, bare, self), nil, true},
		{outlookOf(bare, group(), self), nil, true},
		{outlookOf(group(), bare, self), nil, false},
		{outlookOf(worldOf("2:", nil), worldOf("3:", nil, "00 x0=x1"), mapOf([]int{2, 0})), nil, true},
		{outlookOf(worldOf("1:000,0,00", nil, "0 f2(x0)=f2(x0)", " f1=f1"), bare, self), [][]impl.Step{nil, nil}, true},
	} {
		want := impl.View{}
		if c.found {
			want = impl.View{Along: c.o.v.Along, Proofs: c.want}
		}
		got, ok := impl.ViewFind(c.o.a, c.o.b, c.o.v.Along)
		wantView(t, got, ok, want, c.found, c)
		if c.o.checkFound(t) != c.found {
			t.Fatal(c)
		}
	}
}

// A head goes over a row of signs, turns round at the end, and comes back: a proof of 20 steps is found, and of 21 none.
func TestViewsWithProofsThatAreTooLong(t *testing.T) {
	b := worldOf("1:00,00,00,00,00,0", nil, "0 f0(f2(x0))=f3(f0(x0))", " f0(f5)=f1(f5)", "0 f3(f1(x0))=f1(f4(x0))")
	u := []int{0, 2, 2, 2, 2, 2, 2, 2, 2, 2, 2, 5}
	terms, proofs := spreadByHand(b.t, nil, u, 150)
	for steps := range terms {
		e := impl.Eq{Left: u, Right: terms[steps]}
		for _, axioms := range [][]impl.Eq{{e}, {b.t.Axioms[0], e}, {e, b.t.Axioms[1]}} {
			o := outlook{withAxioms(b.t, axioms...), b.t, impl.View{Along: impl.MapSelf(b.s)}}
			if o.checkFound(t) != (steps <= 20) {
				t.Fatal(steps)
			}
		}
		found, ok := impl.ViewFind(withAxioms(b.t, e), b.t, impl.MapSelf(b.s))
		if steps <= 20 {
			wantView(t, found, ok, impl.View{Along: selfByHand(b.s), Proofs: [][]impl.Step{proofs[steps]}}, true)
		}
	}
	if len(terms) != 22 {
		t.Fatal(terms)
	}
}

func TestViewsOfWhatIsNotOkAreNotFound(t *testing.T) {
	none := func(a, b impl.Theory, m impl.Map) {
		t.Helper()
		got, ok := impl.ViewFind(a, b, m)
		wantView(t, got, ok, impl.View{}, false, a, b, m)
	}
	for _, o := range append(goodOutlooks(193, 1, 1), cancelling(), merging()) {
		for _, m := range wrongLeads(o.road()) {
			none(o.a, o.b, m)
			none(withAxioms(o.a), o.b, m)
			none(withAxioms(o.a), withAxioms(o.b), m)
		}
	}
	w := group()
	self := impl.MapSelf(w.s)
	for _, bad := range badTheories() {
		for _, m := range []impl.Map{self, {}, zeroMap(bad.Over)} {
			none(bad, w.t, m)
			none(w.t, bad, m)
			none(bad, bad, m)
			none(bad, withAxioms(w.t), m)
			none(withAxioms(w.t), bad, m)
		}
	}
	for _, list := range badAxioms(w.s) {
		bad := withAxioms(w.t, list...)
		none(bad, w.t, self)
		none(bad, bad, self)
		none(withAxioms(w.t), bad, self)
	}
	none(impl.Theory{}, impl.Theory{}, impl.Map{})
	none(w.t, impl.Theory{}, self)
	none(impl.Theory{}, w.t, self)
}
