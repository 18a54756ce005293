package tests

import (
	"math"
	"math/rand"
	"slices"
	"testing"

	"loop.example/theorymodules/impl"
)

// kindOf tells what a step of a proof is like along a view: whether it goes backwards, whether it is within a term, and whether the proof of its axiom has no step, one or several.
func (o outlook) kindOf(p impl.Step) [3]int {
	kind := [3]int{0, 0, min(len(o.v.Proofs[p.Axiom]), 2)}
	if p.Back {
		kind[0] = 1
	}
	if p.At > 0 {
		kind[1] = 1
	}
	return kind
}

func TestP28ProofsGoAlongViews(t *testing.T) {
	r := rand.New(rand.NewSource(170))
	seen := map[[3]int]int{}
	for i, o := range append(goodOutlooks(171, 7, 4), slices.Repeat([]outlook{cancelling(), merging()}, 10)...) {
		w := world{setting{o.a.Over, randomVars(r, o.a.Over.Sorts)}, o.a}
		list := w.pool(int64(i+4800), 12)
		for k, u := range list {
			steps, e := w.walk(r, u, r.Intn(8), list)
			if o.checkProof(t, e, steps) {
				for _, p := range steps {
					seen[o.kindOf(p)]++
				}
			}
			if k%3 > 0 {
				continue
			}
			o.checkProof(t, turned(e), backByHand(steps))
			o.checkProof(t, turned(e), steps)
			o.checkProof(t, e, anyChange(r, steps, list))
			o.anyOther(r).checkProof(t, e, steps)
			if !o.checkProof(t, impl.Eq{Vars: e.Vars, Left: u, Right: u}, nil) {
				t.Fatal("no steps", o, u)
			}
		}
	}
	wantSeen(t, seen, 12, 50)
}

// Along the view of a theory in itself a proof is itself.
func TestP28ProofsAlongTheirOwnTheories(t *testing.T) {
	r := rand.New(rand.NewSource(172))
	many := 0
	for i, w := range worlds() {
		self := impl.ViewSelf(w.t)
		list := w.pool(int64(i+4900), 20)
		for _, u := range list {
			steps, e := w.walk(r, u, r.Intn(21), list)
			got, ok := impl.ViewProof(w.t, w.t, self, e, steps)
			wantSteps(t, got, ok, steps, true, w, e, steps)
			back, ok := impl.ViewProof(w.t, w.t, self, turned(e), backByHand(steps))
			wantSteps(t, back, ok, backByHand(steps), true, w, e, steps)
			many += len(steps)
		}
	}
	if many < 2000 {
		t.Fatal(many)
	}
	// A theory in which an axiom stands twice: the number stays that of the step.
	w := worldOf("1:00,0", nil, " f1=f0(f1)", " f1=f0(f1)")
	steps := []impl.Step{stepAt(1, false, 0), stepAt(0, true, 0), stepAt(1, false, 0), stepAt(1, true, 0)}
	got, ok := impl.ViewProof(w.t, w.t, impl.ViewSelf(w.t), eqOf(w.s, " f1=f1"), steps)
	wantSteps(t, got, ok, steps, true)
	// A term on the way of as many numbers as are allowed.
	grows := worldOf("1:000,0,00", nil, "0 x0=f2(x0)")
	for left := 1; left <= 30; left++ {
		steps := []impl.Step{stepAt(0, false, left-1, []int{100}), stepAt(0, true, left-1, []int{100})}
		outlook{grows.t, grows.t, impl.ViewSelf(grows.t)}.checkProof(t, chainEq(left, left), steps)
	}
}

// proofCase is a proof in the first theory of an outlook, and the one that is wanted of it in the second one.
type proofCase struct {
	text  string
	steps []impl.Step
	want  []impl.Step
}

// checkProofs compares proofs along a view.
func (o outlook) checkProofs(t *testing.T, list []proofCase) {
	t.Helper()
	for _, c := range list {
		e := eqOf(o.a.Over, c.text)
		got, ok := impl.ViewProof(o.a, o.b, o.v, e, c.steps)
		wantSteps(t, got, ok, c.want, true, c)
		got, ok = impl.ViewProof(o.a, o.b, o.v, turned(e), backByHand(c.steps))
		wantSteps(t, got, ok, backByHand(c.want), true, "turned", c)
		o.checkProof(t, e, c.steps)
	}
}

func TestProofsAlongTheViewOfGroups(t *testing.T) {
	x0, x1, x2 := []int{100}, []int{101}, []int{102}
	cancelling().checkProofs(t, []proofCase{
		{"0 f1(f0(x0),f1(x0,x0))=x0", []impl.Step{stepAt(0, false, 0, x0)}, []impl.Step{stepAt(0, true, 0, []int{2, 100}, x0, x0), stepAt(2, false, 1, x0), stepAt(1, false, 0, x0)}},
		// Backwards.
		{"0 x0=f1(f0(x0),f1(x0,x0))", []impl.Step{stepAt(0, true, 0, x0)}, []impl.Step{stepAt(1, true, 0, x0), stepAt(2, true, 1, x0), stepAt(0, false, 0, []int{2, 100}, x0, x0)}},
		// Another letter, and terms for it, along the map.
		{"000 f1(f0(x2),f1(x2,x2))=x2", []impl.Step{stepAt(0, false, 0, x2)}, []impl.Step{stepAt(0, true, 0, []int{2, 102}, x2, x2), stepAt(2, false, 1, x2), stepAt(1, false, 0, x2)}},
		{"00 f1(f0(f0(x1)),f1(f0(x1),f0(x1)))=f0(x1)", []impl.Step{stepAt(0, false, 0, []int{0, 101})}, []impl.Step{stepAt(0, true, 0, []int{2, 2, 101}, []int{2, 101}, []int{2, 101}), stepAt(2, false, 1, []int{2, 101}), stepAt(1, false, 0, []int{2, 101})}},
		{"00 f1(f0(f1(x1,x0)),f1(f1(x1,x0),f1(x1,x0)))=f1(x1,x0)", []impl.Step{stepAt(0, false, 0, []int{1, 101, 100})}, []impl.Step{stepAt(0, true, 0, []int{2, 0, 101, 100}, []int{0, 101, 100}, []int{0, 101, 100}), stepAt(2, false, 1, []int{0, 101, 100}), stepAt(1, false, 0, []int{0, 101, 100})}},
		// Within a term, at its second place and behind another part.
		{"0 f0(f1(f0(x0),f1(x0,x0)))=f0(x0)", []impl.Step{stepAt(0, false, 1, x0)}, []impl.Step{stepAt(0, true, 1, []int{2, 100}, x0, x0), stepAt(2, false, 2, x0), stepAt(1, false, 1, x0)}},
		{"00 f1(f0(x1),f1(f0(x0),f1(x0,x0)))=f1(f0(x1),x0)", []impl.Step{stepAt(0, false, 3, x0)}, []impl.Step{stepAt(0, true, 3, []int{2, 100}, x0, x0), stepAt(2, false, 4, x0), stepAt(1, false, 3, x0)}},
		// Backwards within a term, and two steps at different places.
		{"0 f0(f0(x0))=f0(f1(f0(f0(x0)),f1(f0(x0),f0(x0))))", []impl.Step{stepAt(0, true, 1, []int{0, 100})}, []impl.Step{stepAt(1, true, 1, []int{2, 100}), stepAt(2, true, 2, []int{2, 100}), stepAt(0, false, 1, []int{2, 2, 100}, []int{2, 100}, []int{2, 100})}},
		{"00 f1(x0,x1)=f1(f1(f0(x0),f1(x0,x0)),f1(f0(x1),f1(x1,x1)))", []impl.Step{stepAt(0, true, 1, x0), stepAt(0, true, 7, x1)},
			[]impl.Step{stepAt(1, true, 1, x0), stepAt(2, true, 2, x0), stepAt(0, false, 1, []int{2, 100}, x0, x0), stepAt(1, true, 7, x1), stepAt(2, true, 8, x1), stepAt(0, false, 7, []int{2, 101}, x1, x1)}},
		// No steps.
		{"0 f0(x0)=f0(x0)", nil, nil},
		{"00 x1=x1", []impl.Step{}, nil},
	})
}

func TestProofsAlongViewsThatLeadTwoToOne(t *testing.T) {
	x0, x1, one := []int{100}, []int{101}, []int{1}
	three := []impl.Step{stepAt(0, false, 0, x0), stepAt(0, true, 0, x0), stepAt(2, true, 0, []int{2, 100, 1})}
	merging().checkProofs(t, []proofCase{
		// Steps whose axioms have proofs without steps.
		{"0 f0(x0,f1)=f0(x0,f2)", []impl.Step{stepAt(0, false, 0, x0)}, nil},
		{"0 f0(x0,f1)=f0(x0,f2)", []impl.Step{stepAt(4, false, 2)}, nil},
		{" f1=f2", []impl.Step{stepAt(4, false, 0)}, nil},
		{"0 f3(f0(x0,f1))=f3(f0(x0,f1))", []impl.Step{stepAt(0, false, 1, x0), stepAt(4, true, 3), stepAt(4, false, 3), stepAt(0, true, 1, x0)}, nil},
		// One step, which goes backwards itself, and one within the sides of the axiom.
		{"10 x1=f0(x1,f1)", []impl.Step{stepAt(1, false, 0, x0, x1)}, []impl.Step{stepAt(0, true, 0, x1)}},
		{"0 f3(x0)=f3(f0(x0,f1))", []impl.Step{stepAt(1, false, 1, []int{2}, x0)}, []impl.Step{stepAt(0, true, 1, x0)}},
		{"01 f3(f0(f3(x0),x1))=f3(f3(f3(x0)))", []impl.Step{stepAt(2, false, 0, []int{3, 100}, x1)}, []impl.Step{stepAt(1, false, 1, []int{3, 100}, x1)}},
		{"01 f0(f3(f0(x0,f2)),x1)=f0(f3(f3(x0)),x1)", []impl.Step{stepAt(2, false, 1, x0, []int{2})}, []impl.Step{stepAt(1, false, 2, x0, one)}},
		// Several, and some of each.
		{"0 f0(x0,f2)=f3(f0(x0,f1))", []impl.Step{stepAt(3, false, 0, x0)}, three},
		{"0 f0(x0,f1)=f3(f0(x0,f2))", []impl.Step{stepAt(0, false, 0, x0), stepAt(3, false, 0, x0), stepAt(4, false, 3)}, three},
		{"0 x0=f3(f0(x0,f1))", []impl.Step{stepAt(1, false, 0, []int{2}, x0), stepAt(4, false, 2), stepAt(3, false, 0, x0)}, slices.Concat([]impl.Step{stepAt(0, true, 0, x0)}, three)},
		{"0 f3(f3(x0))=f3(f3(f0(x0,f2)))", []impl.Step{stepAt(1, false, 2, one, x0), stepAt(0, false, 2, x0)}, []impl.Step{stepAt(0, true, 2, x0)}},
		{"0 f3(f0(x0,f2))=f3(f3(f0(x0,f1)))", []impl.Step{stepAt(3, false, 1, x0)}, []impl.Step{stepAt(0, false, 1, x0), stepAt(0, true, 1, x0), stepAt(2, true, 1, []int{2, 100, 1})}},
	})
}

// growing returns the outlook of a theory with equations about f0 and f1(f0), of which each is proved by so many steps that go to a longer term and back.
func growing(many ...int) outlook {
	b := worldOf("1:000,0,00", nil, "0 x0=f2(x0)")
	o := outlookOf(worldOf("1:0,00", nil), b, mapOf([]int{0}, 1, 2))
	for _, steps := range many {
		o.a.Axioms = append(o.a.Axioms, eqOf(o.a.Over, []string{" f0=f0", " f0=f1(f0)"}[steps%2]))
		o.v.Proofs = append(o.v.Proofs, toAndFro(steps))
	}
	return o
}

func TestProofsOfExactlyAsManyStepsAsAreAllowed(t *testing.T) {
	for each := range 21 {
		o := growing(each)
		for many := range 22 {
			// Of an even number of steps both sides are f0, and of an odd one each other step goes back.
			var steps []impl.Step
			for i := range many {
				steps = append(steps, stepAt(0, i%2 == 1, 0))
			}
			right := [][]int{{0}, {1, 0}}[each*many%2]
			e := impl.Eq{Left: []int{0}, Right: right}
			if o.checkProof(t, e, steps) != (many <= 20 && each*many <= 20) {
				t.Fatal(each, many)
			}
			if many <= 20 && each*many <= 20 {
				got, _ := impl.ViewProof(o.a, o.b, o.v, e, steps)
				wantSteps(t, got, true, toAndFro(each*many), true, each, many)
			}
		}
	}
	// Axioms with proofs of different lengths: what is wanted is how many steps there are, or -1 if they are too many.
	o := growing(2, 0, 18, 20, 1, 19)
	for _, c := range []struct {
		axioms []int
		want   int
	}{
		{[]int{0, 2}, 20}, {[]int{2, 0}, 20}, {[]int{0, 1, 2, 1}, 20}, {[]int{2, 1, 1, 0, 1}, 20}, {[]int{3}, 20}, {[]int{1, 3, 1, 1}, 20}, {[]int{5, 4}, 20}, {[]int{4, 5}, 20},
		{[]int{0, 0, 2}, -1}, {[]int{2, 0, 0}, -1}, {[]int{3, 0}, -1}, {[]int{0, 3}, -1}, {[]int{3, 3}, -1}, {[]int{5, 4, 0}, -1}, {[]int{4, 4, 3}, -1}, {[]int{3, 1, 4, 4}, -1}, {[]int{5, 5}, -1},
		{slices.Repeat([]int{1}, 20), 0}, {slices.Repeat([]int{1}, 21), -1}, {slices.Repeat([]int{0}, 10), 20}, {slices.Repeat([]int{0}, 11), -1},
		{slices.Concat(slices.Repeat([]int{1}, 10), slices.Repeat([]int{0}, 10)), 20}, {slices.Concat(slices.Repeat([]int{1}, 9), slices.Repeat([]int{0}, 11)), -1},
	} {
		var steps []impl.Step
		up := false
		for _, axiom := range c.axioms {
			steps = append(steps, stepAt(axiom, up, 0))
			up = up != (axiom >= 4)
		}
		got, ok := impl.ViewProof(o.a, o.b, o.v, eqOf(o.a.Over, " f0=f0"), steps)
		if ok != (c.want >= 0) || len(got) != max(c.want, 0) {
			t.Fatal(c, got, ok)
		}
		o.checkProof(t, eqOf(o.a.Over, " f0=f0"), steps)
	}
}

// lengthening returns the outlook of a theory with the equation of a letter and itself, which is proved by so many steps to longer and longer terms, and so many back.
func lengthening(up int) outlook {
	o := outlookOf(worldOf("1:000,0,00", nil, "0 x0=x0"), worldOf("1:000,0,00", nil, "0 x0=f2(x0)"), mapOf([]int{0}, 0, 1, 2))
	var steps []impl.Step
	for i := range up {
		steps = append(steps, stepAt(0, false, i, []int{100}))
	}
	o.v.Proofs = [][]impl.Step{append(steps, backByHand(steps)...)}
	return o
}

func TestTermsOnTheWayThatBecomeTooLong(t *testing.T) {
	for up := range 5 {
		o := lengthening(up)
		if !o.checkView(t) {
			t.Fatal("no view", o)
		}
		for numbers := 24; numbers <= 31; numbers++ {
			e := impl.Eq{Vars: []int{0}, Left: chain(numbers, 100), Right: chain(numbers, 100)}
			for at := range numbers {
				// At the first place the proof that is carried is too long itself, and at the last one only the term around it makes it so.
				for _, back := range []bool{false, true} {
					p := stepAt(0, back, at, chain(numbers-at, 100))
					fits := numbers+up <= 30
					if o.checkProof(t, e, []impl.Step{p}) != fits || o.checkProof(t, e, []impl.Step{p, p}) != fits {
						t.Fatal(up, numbers, at, back)
					}
				}
			}
			if o.checkProof(t, e, nil) != (numbers <= 30) {
				t.Fatal(up, numbers, "no steps")
			}
		}
	}
	// Of several steps the last one, one between others and the first one alone becomes too long.
	o := lengthening(1)
	o.a.Axioms = append(o.a.Axioms, eqOf(o.a.Over, "0 f2(x0)=x0"))
	o.v.Proofs = append(o.v.Proofs, []impl.Step{stepAt(0, true, 0, []int{100})})
	remove, add, stay := stepAt(1, false, 0, chain(29, 100)), stepAt(1, true, 0, chain(29, 100)), stepAt(0, false, 0, chain(29, 100))
	tooLong := stepAt(0, false, 0, chain(30, 100))
	for _, c := range []struct {
		left, right int
		steps       []impl.Step
		ok          bool
	}{
		{30, 29, []impl.Step{remove}, true},
		{30, 29, []impl.Step{remove, stay}, true},
		{30, 29, []impl.Step{tooLong, remove}, false},
		{30, 29, []impl.Step{remove, stay, add, tooLong, remove}, false},
		{30, 30, []impl.Step{remove, stay, add}, true},
		{30, 30, []impl.Step{remove, stay, add, tooLong}, false},
		{29, 30, []impl.Step{stay, add}, true},
		{29, 30, []impl.Step{stay, add, stepAt(0, true, 29, []int{100})}, false},
		{29, 29, []impl.Step{stay, add, tooLong, remove}, false},
	} {
		if o.checkProof(t, chainEq(c.left, c.right), c.steps) != c.ok {
			t.Fatal(c)
		}
	}
}

// Letters that stand on no side of an axiom have terms in its proof, which may be too long, too.
func TestTermsForLettersThatStandNowhere(t *testing.T) {
	a := worldOf("1:000,0,00", nil, "00 f0(x0,x0)=x0")
	b := worldOf("1:000,0,00", nil, "00 f0(x0,x0)=x0", "0 f0(x0,x0)=x0")
	steps := func(row []int) []impl.Step { return []impl.Step{stepAt(0, false, 0, []int{1}, row)} }
	e := eqOf(a.s, " f0(f1,f1)=f1")
	plain := outlookOf(a, b, mapOf([]int{0}, 0, 1, 2), []impl.Step{stepAt(0, false, 0, []int{100}, []int{101})})
	longer := outlookOf(a, b, mapOf([]int{0}, 0, 1, 2), []impl.Step{stepAt(0, false, 0, []int{100}, []int{2, 101})})
	gone := outlookOf(a, b, mapOf([]int{0}, 0, 1, 2), []impl.Step{stepAt(1, false, 0, []int{100})})
	for numbers := 27; numbers <= 31; numbers++ {
		row := chain(numbers, 1)
		if plain.checkProof(t, e, steps(row)) != (numbers <= 30) || longer.checkProof(t, e, steps(row)) != (numbers <= 29) || gone.checkProof(t, e, steps(row)) != (numbers <= 30) {
			t.Fatal(numbers)
		}
	}
	got, ok := impl.ViewProof(longer.a, longer.b, longer.v, e, steps([]int{0, 1, 1}))
	wantSteps(t, got, ok, []impl.Step{stepAt(0, false, 0, []int{1}, []int{2, 0, 1, 1})}, true)
}

// noProof fails if there is a proof along a view.
func (o outlook) noProof(t *testing.T, e impl.Eq, steps []impl.Step) {
	t.Helper()
	got, ok := impl.ViewProof(o.a, o.b, o.v, e, steps)
	wantSteps(t, got, ok, nil, false, o, e, steps)
}

func TestProofsAlongWhatIsNoView(t *testing.T) {
	r := rand.New(rand.NewSource(173))
	for _, o := range append(goodOutlooks(174, 1, 3), cancelling(), merging()) {
		w := world{setting{o.a.Over, randomVars(r, o.a.Over.Sorts)}, o.a}
		list := append(w.pool(r.Int63(), 6), []int{100})
		steps, e := w.walk(r, list[0], 2, list)
		for _, v := range o.wrongViews() {
			outlook{o.a, o.b, v}.noProof(t, e, steps)
			outlook{o.a, o.b, v}.noProof(t, impl.Eq{Vars: e.Vars, Left: e.Left, Right: e.Left}, nil)
		}
	}
	w := group()
	self := viewSelfByHand(w.t)
	steps := []impl.Step{stepAt(1, false, 0, []int{100})}
	same := impl.Eq{Vars: []int{0}, Left: []int{100}, Right: []int{100}}
	for _, bad := range badTheories() {
		for _, o := range []outlook{{bad, w.t, self}, {w.t, bad, self}, {bad, bad, self}, {withAxioms(w.t), bad, impl.View{Along: self.Along}}, {bad, withAxioms(w.t), impl.View{Along: zeroMap(bad.Over)}}, {bad, bad, impl.View{}}} {
			o.noProof(t, w.t.Axioms[1], steps)
			o.noProof(t, same, nil)
			o.noProof(t, impl.Eq{}, nil)
		}
	}
	for _, list := range badAxioms(w.s) {
		bad := withAxioms(w.t, list...)
		for _, o := range []outlook{{bad, w.t, impl.View{Along: self.Along, Proofs: make([][]impl.Step, len(list))}}, {withAxioms(w.t), bad, impl.View{Along: self.Along}}} {
			o.noProof(t, same, nil)
		}
	}
	// A proof that is wrong is refused, though no step uses its axiom.
	o := outlook{w.t, w.t, self}
	if !o.checkProof(t, w.t.Axioms[1], steps) {
		t.Fatal("no proof")
	}
	for _, axiom := range []int{0, 2} {
		outlook{o.a, o.b, o.withProof(axiom, nil)}.noProof(t, w.t.Axioms[1], steps)
		outlook{o.a, o.b, o.withProof(axiom, nil)}.noProof(t, same, nil)
	}
}

func TestWhatIsNoProofDoesNotGoAlongViews(t *testing.T) {
	x0, x1 := []int{100}, []int{101}
	o := cancelling()
	e, steps := o.a.Axioms[0], []impl.Step{stepAt(0, false, 0, x0)}
	if !o.checkProof(t, e, steps) {
		t.Fatal("no proof")
	}
	for _, some := range [][]impl.Step{
		nil,
		{stepAt(0, true, 0, x0)},
		{stepAt(0, false, 1, x0)},
		{stepAt(0, false, -1, x0)},
		{stepAt(0, false, 6, x0)},
		{stepAt(0, false, math.MaxInt, x0)},
		{stepAt(0, false, math.MinInt, x0)},
		{stepAt(1, false, 0, x0)},
		{stepAt(-1, false, 0, x0)},
		{stepAt(math.MaxInt, false, 0, x0)},
		{stepAt(math.MinInt, false, 0, x0)},
		{stepAt(0, false, 0)},
		{stepAt(0, false, 0, x0, x0)},
		{stepAt(0, false, 0, x1)},
		{stepAt(0, false, 0, []int{0, 100})},
		{stepAt(0, false, 0, nil)},
		{stepAt(0, false, 0, []int{-1})},
		{steps[0], steps[0]},
		{steps[0], stepAt(0, true, 0, x0)},
		slices.Repeat(steps, 1000),
	} {
		o.noProof(t, e, some)
	}
	for _, other := range []impl.Eq{
		turned(e), {}, {Vars: e.Vars}, {Vars: e.Vars, Left: e.Left}, {Vars: e.Vars, Right: e.Right}, {Left: e.Left, Right: e.Right},
		{Vars: []int{1}, Left: e.Left, Right: e.Right}, {Vars: []int{0, 0, 0, 0, 0}, Left: e.Left, Right: e.Right}, {Vars: e.Vars, Left: e.Left, Right: e.Left}, {Vars: e.Vars, Left: e.Left, Right: []int{0, 100}},
	} {
		o.noProof(t, other, steps)
	}
	// What proves the equation along the map, but not the equation itself.
	m := merging()
	m.noProof(t, eqOf(m.a.Over, "0 f0(x0,f1)=f0(x0,f2)"), nil)
	m.noProof(t, eqOf(m.a.Over, " f1=f2"), nil)
	m.noProof(t, eqOf(m.a.Over, "10 x1=f0(x1,f2)"), []impl.Step{stepAt(1, false, 0, x0, x1)})
	// The steps of the second theory, and an equation over it.
	o.noProof(t, o.led(e), o.v.Proofs[0])
	o.noProof(t, e, o.v.Proofs[0])
	// 21 steps, though none of them has one along the map.
	none := worldOf("1:0,0", nil, " f0=f1")
	var more []impl.Step
	for i := range 22 {
		more = append(more, stepAt(0, i%2 == 1, 0))
	}
	become := outlookOf(none, worldOf("1:0", nil), mapOf([]int{0}, 0, 0), nil)
	for many := range 23 {
		if become.checkProof(t, impl.Eq{Left: []int{0}, Right: []int{many % 2}}, more[:many]) != (many <= 20) {
			t.Fatal(many)
		}
	}
}
