package tests

import (
	"math/rand"
	"slices"
	"strings"
	"testing"

	"loop.example/theorymodules/impl"
)

// world is a theory, with the sorts of the letters of the terms that a test takes.
type world struct {
	setting
	t impl.Theory
}

// eqOf reads an equation that a test needs, without the functions that are tested.
func eqOf(s impl.Sig, text string) impl.Eq {
	e, ok := readEqByHand(s, text)
	if !ok {
		panic("no equation: " + text)
	}
	return e
}

// worldOf reads a theory, and terms with letters.
func worldOf(sig string, vars []int, axioms ...string) world {
	t := impl.Theory{Over: sigOf(sig)}
	for _, text := range axioms {
		t.Axioms = append(t.Axioms, eqOf(t.Over, text))
	}
	return world{setting{t.Over, vars}, t}
}

// term reads a term of a world.
func (w world) term(text string) []int {
	row, ok := readByHand(w.s, w.vars, text)
	if !ok {
		panic("no term: " + text)
	}
	return row
}

// group returns a world of associativity, a unit on the left and inverses on the left.
func group(vars ...int) world {
	return worldOf("1:000,0,00", vars, "000 f0(f0(x0,x1),x2)=f0(x0,f0(x1,x2))", "0 f0(f1,x0)=x0", "0 f0(f2(x0),x0)=f1")
}

// worlds returns worlds of 1, 2 and 3 sorts with 0 to 6 axioms: some with a letter alone on one side or on both, with letters that stand on one side alone, twice, or on none, and some by chance.
func worlds() []world {
	list := []world{
		group(0, 0),
		group(),
		worldOf("1:000,0,00", []int{0, 0, 0}, "00 f0(x0,x1)=f0(x1,x0)", "0 f0(x0,x0)=x0", "0 f2(f2(x0))=x0"),
		worldOf("1:000,0,00", []int{0, 0}, "0 x0=f2(x0)", "0 f0(f1,x0)=x0", "0 x0=f0(x0,x0)"),
		worldOf("1:000,0,00", []int{0, 0}, "00 f0(x0,x1)=x0", "00 x1=f0(x1,x0)", "00 f0(x0,x1)=f1", "0 f1=f2(x0)", "00 f2(x0)=f2(x1)"),
		worldOf("1:000,0,00", []int{0, 0}, "00 x0=x1", "0 x0=x0", "00 x1=f1"),
		worldOf("1:000,0,00", nil, "000 f2(x1)=x1", "0000 f1=f2(f1)", "0 f0(f1,f1)=f1"),
		worldOf("1:000,0,00", []int{0}),
		worldOf("1:00,0", []int{0}, " f1=f0(f1)", " f1=f1", "0 f0(x0)=x0"),
		worldOf("2:010,01,10,0,1", []int{1, 0}, "01 f0(x0,x1)=x0", "1 f1(f2(x0))=x0", "0 x0=f2(f1(x0))", "10 f1(x1)=x0", "001 f0(x1,x2)=x0"),
		worldOf("2:010,01,10,0,1", []int{0}, "011 f0(x0,x1)=x0", "10 f3=x1", "10 f1(x1)=f1(x1)"),
		worldOf("2:010,01,10,0,1", nil, "10 f1(x1)=f1(x1)", " f3=f2(f4)", "1 x0=f4"),
		worldOf("3:012,120,20,0,1,2", []int{2, 0, 1}, "01 f2(f0(x0,x1))=x0", "2 f0(f2(x0),f4)=x0", "12 f1(x0,x1)=f3", "0 x0=f1(f4,f5)"),
		worldOf("1:", []int{0, 0, 0}, "00 x0=x1", "0 x0=x0"),
	}
	r := rand.New(rand.NewSource(11))
	for i, c := range settings() {
		list = append(list, world{c, anyTheory(r, c, i%7)})
	}
	return list
}

// anyTheory returns a theory over the signature of a setting with at most so many axioms, by chance.
func anyTheory(r *rand.Rand, c setting, most int) impl.Theory {
	t := impl.Theory{Over: c.s}
	for tries := 0; tries < 60 && len(t.Axioms) < most; tries++ {
		vars := randomVars(r, c.s.Sorts)
		list := setting{c.s, vars}.pool(r.Int63(), 12)
		if len(list) == 0 {
			continue
		}
		e := impl.Eq{Vars: vars, Left: list[r.Intn(len(list))], Right: list[r.Intn(len(list))]}
		if eqByHand(c.s, e) && len(e.Left) <= 5 && len(e.Right) <= 5 {
			t.Axioms = append(t.Axioms, e)
		}
	}
	return t
}

// eqByHand is EqOk as the document tells it.
func eqByHand(s impl.Sig, e impl.Eq) bool {
	left, okLeft := treeByHand(s, e.Vars, e.Left)
	right, okRight := treeByHand(s, e.Vars, e.Right)
	return okLeft && okRight && left.sort == right.sort
}

// theoryByHand is TheoryOk as the document tells it.
func theoryByHand(t impl.Theory) bool {
	ok := impl.SigValid(t.Over) && len(t.Axioms) <= 6
	for _, e := range t.Axioms {
		ok = ok && eqByHand(t.Over, e)
	}
	return ok
}

// sidesByHand returns the side that a step replaces, and the one that is put there.
func sidesByHand(t impl.Theory, p impl.Step) (tree, tree) {
	e := t.Axioms[p.Axiom]
	left, _ := treeByHand(t.Over, e.Vars, e.Left)
	right, _ := treeByHand(t.Over, e.Vars, e.Right)
	if p.Back {
		return right, left
	}
	return left, right
}

// stepByHand is StepDo as the document tells it.
func stepByHand(t impl.Theory, vars []int, u []int, p impl.Step) ([]int, bool) {
	if !theoryByHand(t) {
		return nil, false
	}
	return stepInside(t, vars, u, p)
}

// stepInside is stepByHand for a theory that is ok, which costs less than to ask for it again.
func stepInside(t impl.Theory, vars []int, u []int, p impl.Step) ([]int, bool) {
	whole, ok := treeByHand(t.Over, vars, u)
	if !ok || p.Axiom < 0 || p.Axiom >= len(t.Axioms) || p.At < 0 || p.At >= len(u) {
		return nil, false
	}
	terms, ok := fitByHand(t.Over, vars, p.Terms, t.Axioms[p.Axiom].Vars)
	if !ok {
		return nil, false
	}
	from, to := sidesByHand(t, p)
	if !sameRow(from.put(terms).row(), whole.parts()[p.At].row()) {
		return nil, false
	}
	after := whole.swap(p.At, to.put(terms)).row()
	if len(after) > 30 {
		return nil, false
	}
	return after, true
}

// waysByHand returns the terms on the way of steps, the first one and the last one too; false if a step cannot be done.
func waysByHand(t impl.Theory, vars []int, u []int, steps []impl.Step) ([][]int, bool) {
	if !theoryByHand(t) || sortByHand(t.Over, vars, u) < 0 || len(steps) > 20 {
		return nil, false
	}
	ways := [][]int{u}
	for _, p := range steps {
		next, ok := stepInside(t, vars, ways[len(ways)-1], p)
		if !ok {
			return nil, false
		}
		ways = append(ways, next)
	}
	return ways, true
}

// proofByHand is ProofOk as the document tells it, with the terms on the way.
func proofByHand(t impl.Theory, e impl.Eq, steps []impl.Step) ([][]int, bool) {
	ways, ok := waysByHand(t, e.Vars, e.Left, steps)
	return ways, ok && eqByHand(t.Over, e) && sameRow(ways[len(ways)-1], e.Right)
}

// backByHand is ProofBack as the document tells it.
func backByHand(steps []impl.Step) []impl.Step {
	var turned []impl.Step
	for _, p := range steps {
		p.Back = !p.Back
		turned = append([]impl.Step{p}, turned...)
	}
	return turned
}

// pathTo returns which of the terms that are taken one goes into, again and again, to the part at a place.
func (t tree) pathTo(at int) []int {
	if at == 0 {
		return nil
	}
	begin := 1
	for i, taken := range t.takes {
		size := len(taken.row())
		if at < begin+size {
			return append([]int{i}, taken.pathTo(at-begin)...)
		}
		begin += size
	}
	panic("no place")
}

// placeOf returns the place of the part to which a path leads.
func (t tree) placeOf(path []int) int {
	if len(path) == 0 {
		return 0
	}
	place := 1
	for _, taken := range t.takes[:path[0]] {
		place += len(taken.row())
	}
	return place + t.takes[path[0]].placeOf(path[1:])
}

// putProofByHand is ProofPut as the document tells it.
func putProofByHand(t impl.Theory, e impl.Eq, steps []impl.Step, others []int, terms [][]int) ([]impl.Step, bool) {
	ways, ok := proofByHand(t, e, steps)
	list, fit := fitByHand(t.Over, others, terms, e.Vars)
	if !ok || !fit {
		return nil, false
	}
	for _, way := range ways {
		if _, ok := putByHand(t.Over, e.Vars, way, others, terms); !ok {
			return nil, false
		}
	}
	var carried []impl.Step
	for i, p := range steps {
		way, _ := treeByHand(t.Over, e.Vars, ways[i])
		q := impl.Step{Axiom: p.Axiom, Back: p.Back, At: way.put(list).placeOf(way.pathTo(p.At))}
		for _, row := range p.Terms {
			put, ok := putByHand(t.Over, e.Vars, row, others, terms)
			if !ok {
				return nil, false
			}
			q.Terms = append(q.Terms, put)
		}
		carried = append(carried, q)
	}
	return carried, true
}

// underByHand is ProofUnder as the document tells it.
func underByHand(t impl.Theory, e impl.Eq, steps []impl.Step, u []int, at int) ([]impl.Step, bool) {
	ways, ok := proofByHand(t, e, steps)
	if !ok || !sameRow(atByHand(t.Over, e.Vars, u, at), e.Left) {
		return nil, false
	}
	for _, way := range ways {
		if _, ok := swapByHand(t.Over, e.Vars, u, at, way); !ok {
			return nil, false
		}
	}
	var moved []impl.Step
	for _, p := range steps {
		p.At += at
		moved = append(moved, p)
	}
	return moved, true
}

// fromByHand is StepsFrom as the document tells it.
func fromByHand(t impl.Theory, vars []int, u []int) []impl.Step {
	if !theoryByHand(t) || sortByHand(t.Over, vars, u) < 0 {
		return nil
	}
	var list []impl.Step
	for at := range u {
		for i := range 2 * len(t.Axioms) {
			p := impl.Step{Axiom: i / 2, Back: i%2 == 1, At: at}
			letters := t.Axioms[p.Axiom].Vars
			from, to := sidesByHand(t, p)
			terms, ok := matchByHand(t.Over, letters, from.row(), vars, atByHand(t.Over, vars, u, at))
			for letter := range letters {
				ok = ok && (stands(from.row(), letter) || !stands(to.row(), letter))
				if ok && !stands(from.row(), letter) {
					first := slices.Index(vars, letters[letter])
					terms[letter] = []int{100 + first}
					ok = first >= 0
				}
			}
			p.Terms = terms
			if ok {
				if _, ok := stepInside(t, vars, u, p); ok {
					list = append(list, p)
				}
			}
		}
	}
	return list
}

// spreadByHand returns the terms that the search from a term goes to, in its order and up to so many, and how each was reached.
func spreadByHand(t impl.Theory, vars []int, u []int, most int) ([][]int, [][]impl.Step) {
	terms, proofs := [][]int{u}, [][]impl.Step{nil}
	seen := map[string]bool{textOfRow(u): true}
	for i := 0; i < len(terms) && len(terms) < most; i++ {
		for _, p := range fromByHand(t, vars, terms[i]) {
			next, _ := stepInside(t, vars, terms[i], p)
			if key := textOfRow(next); len(next) <= 12 && !seen[key] && len(terms) < most {
				seen[key] = true
				terms = append(terms, next)
				proofs = append(proofs, append(slices.Clone(proofs[i]), p))
			}
		}
	}
	return terms, proofs
}

// findByHand is ProofFind as the document tells it.
func findByHand(t impl.Theory, e impl.Eq) ([]impl.Step, bool) {
	if !theoryByHand(t) || !eqByHand(t.Over, e) {
		return nil, false
	}
	terms, proofs := spreadByHand(t, e.Vars, e.Left, 150)
	return pickByHand(terms, proofs, e.Right)
}

// pickByHand returns the steps to a term, if it is one of the first 150 to which a search goes, and they are at most 20.
func pickByHand(terms [][]int, proofs [][]impl.Step, right []int) ([]impl.Step, bool) {
	for i, row := range terms {
		if i < 150 && sameRow(row, right) && len(proofs[i]) <= 20 {
			return proofs[i], true
		}
	}
	return nil, false
}

// eqTextByHand is EqText as the document tells it.
func eqTextByHand(s impl.Sig, e impl.Eq) string {
	if !eqByHand(s, e) {
		return ""
	}
	text := ""
	for _, sort := range e.Vars {
		text += "012"[sort : sort+1]
	}
	left, _ := treeByHand(s, e.Vars, e.Left)
	right, _ := treeByHand(s, e.Vars, e.Right)
	return text + " " + left.text() + "=" + right.text()
}

// readEqByHand is ReadEq as the document tells it.
func readEqByHand(s impl.Sig, text string) (impl.Eq, bool) {
	words := strings.Split(text, " ")
	if len(words) != 2 || strings.Count(words[1], "=") != 1 {
		return impl.Eq{}, false
	}
	e := impl.Eq{}
	for i := range len(words[0]) {
		e.Vars = append(e.Vars, strings.Index("0123456789", words[0][i:i+1]))
	}
	if !varsByHand(s, e.Vars) {
		return impl.Eq{}, false
	}
	sides := strings.Split(words[1], "=")
	e.Left, _ = readByHand(s, e.Vars, sides[0])
	e.Right, _ = readByHand(s, e.Vars, sides[1])
	if !eqByHand(s, e) {
		return impl.Eq{}, false
	}
	return e, true
}

// anyStep returns a step that can be done from a term, by chance, and the term after it; letters that do not stand in what is replaced get any terms out of a list.
func (w world) anyStep(r *rand.Rand, u []int, list [][]int) (impl.Step, []int, bool) {
	for tries := 0; tries < 40 && len(w.t.Axioms) > 0; tries++ {
		p := impl.Step{Axiom: r.Intn(len(w.t.Axioms)), Back: r.Intn(2) == 0, At: r.Intn(len(u))}
		from, _ := sidesByHand(w.t, p)
		letters := w.t.Axioms[p.Axiom].Vars
		terms, ok := matchByHand(w.s, letters, from.row(), w.vars, atByHand(w.s, w.vars, u, p.At))
		for letter, sort := range letters {
			if ok && len(terms[letter]) == 0 {
				fit, there := w.termsFor(r, list, []int{sort})
				if ok = there; ok {
					terms[letter] = fit[0]
				}
			}
		}
		p.Terms = terms
		if next, done := stepInside(w.t, w.vars, u, p); ok && done {
			return p, next, true
		}
	}
	return impl.Step{}, nil, false
}

// walk returns at most so many steps that can be done from a term, one after the other, by chance, and the equation that they prove.
func (w world) walk(r *rand.Rand, u []int, most int, list [][]int) ([]impl.Step, impl.Eq) {
	var steps []impl.Step
	last := u
	for len(steps) < most {
		p, next, ok := w.anyStep(r, last, list)
		if !ok {
			break
		}
		steps, last = append(steps, p), next
	}
	return steps, impl.Eq{Vars: w.vars, Left: u, Right: last}
}

// sameSteps compares steps.
func sameSteps(a, b []impl.Step) bool {
	if len(a) != len(b) {
		return false
	}
	for i, p := range a {
		if p.Axiom != b[i].Axiom || p.Back != b[i].Back || p.At != b[i].At || !sameRows(p.Terms, b[i].Terms) {
			return false
		}
	}
	return true
}

// wantSteps fails if steps and their bool are not those that are wanted, or if there are steps beside false.
func wantSteps(t *testing.T, got []impl.Step, ok bool, want []impl.Step, wantOk bool, about ...any) {
	t.Helper()
	if ok != wantOk || !sameSteps(got, want) || !ok && len(got) > 0 {
		t.Fatal("got", got, ok, "wanted", want, wantOk, "for", about)
	}
}

func sameEq(a, b impl.Eq) bool {
	return sameRow(a.Vars, b.Vars) && sameRow(a.Left, b.Left) && sameRow(a.Right, b.Right)
}

// turned returns an equation with its sides exchanged.
func turned(e impl.Eq) impl.Eq {
	return impl.Eq{Vars: e.Vars, Left: e.Right, Right: e.Left}
}

// badTheories returns theories that are not ok, with the signature 1:000,0,00 where it is valid, in which a step with the first axiom could be done if one did not ask for it.
func badTheories() []impl.Theory {
	good := group().t.Axioms
	bad := impl.Eq{Vars: []int{0}, Left: []int{100}, Right: []int{101}}
	list := []impl.Theory{
		{Over: sigOf("1:000,0,00"), Axioms: append(slices.Clone(good), bad)},
		{Over: sigOf("1:000,0,00"), Axioms: append(append(slices.Clone(good), good...), good[1])},
		{Over: sigOf("1:000,0,00"), Axioms: append(slices.Clone(good), impl.Eq{})},
		{Over: sigOf("1:000,0,00"), Axioms: make([]impl.Eq, 1)},
	}
	for _, s := range invalidSigs() {
		list = append(list, impl.Theory{Over: s}, impl.Theory{Over: s, Axioms: good})
	}
	return list
}
