package tests

import (
	"math"
	"math/rand"
	"reflect"
	"testing"

	"loop.example/theorymodules/impl"
)

// anyRow returns a row of numbers, some of which are those of operations and letters.
func anyRow(r *rand.Rand) []int {
	numbers := []int{0, 1, 2, 3, 4, 5, 6, 0, 1, 2, 100, 101, 102, 103, 104, 100, 101, -1, 99, math.MinInt, math.MaxInt}
	row := make([]int, r.Intn(6))
	if r.Intn(20) == 0 {
		row = make([]int, 28+r.Intn(6))
	}
	for i := range row {
		row[i] = numbers[r.Intn(len(numbers))]
	}
	return row
}

// anyTerm returns a term of a setting, such a one with a number changed, or any row.
func anyTerm(r *rand.Rand, list [][]int) []int {
	if len(list) == 0 || r.Intn(4) == 0 {
		return anyRow(r)
	}
	row := append([]int{}, list[r.Intn(len(list))]...)
	if r.Intn(5) == 0 {
		row[r.Intn(len(row))] = r.Intn(6) + 100*r.Intn(2)
	}
	return row
}

func anyTerms(r *rand.Rand, list [][]int, many int) [][]int {
	terms := make([][]int, many)
	for i := range terms {
		terms[i] = anyTerm(r, list)
	}
	return terms
}

// anyVars returns the letters of a setting, or others, which need not be any.
func anyVars(r *rand.Rand, c setting) []int {
	if r.Intn(3) > 0 {
		return c.vars
	}
	vars := make([]int, r.Intn(7))
	for i := range vars {
		vars[i] = r.Intn(5) - 1
	}
	return vars
}

// Whatever the arguments are, the results are those that the document tells, and nothing panics.
func TestTermsOfAnyArguments(t *testing.T) {
	r := rand.New(rand.NewSource(7))
	bad := invalidSigs()
	for i, c := range settings() {
		list := c.pool(int64(i+900), 60)
		for range 4000 {
			s := c.s
			if r.Intn(15) == 0 {
				s = bad[r.Intn(len(bad))]
			}
			checkAny(t, r, s, anyVars(r, c), anyVars(r, c), list)
		}
	}
}

func checkAny(t *testing.T, r *rand.Rand, s impl.Sig, vars, others []int, list [][]int) {
	t.Helper()
	row, u, at := anyTerm(r, list), anyTerm(r, list), r.Intn(8)-1
	if impl.VarsOk(s, vars) != varsByHand(s, vars) {
		t.Fatal("VarsOk", s, vars)
	}
	if got := impl.TermSort(s, vars, row); got != sortByHand(s, vars, row) {
		t.Fatal("TermSort", s, vars, row, got)
	}
	terms := anyTerms(r, list, r.Intn(6))
	sorts := anyRow(r)
	if r.Intn(2) == 0 {
		sorts = nil
		for _, u := range terms {
			sorts = append(sorts, sortByHand(s, others, u))
		}
	}
	_, fit := fitByHand(s, others, terms, sorts)
	if impl.TermsFit(s, others, terms, sorts) != fit {
		t.Fatal("TermsFit", s, others, terms, sorts)
	}
	if r.Intn(4) > 0 {
		terms = anyTerms(r, list, len(vars))
	}
	put, ok := impl.TermPut(s, vars, row, others, terms)
	wantPut, wantOk := putByHand(s, vars, row, others, terms)
	wantRow(t, put, ok, wantPut, wantOk, "TermPut", s, vars, row, others, terms)
	if part := impl.TermAt(s, vars, row, at); !sameRow(part, atByHand(s, vars, row, at)) {
		t.Fatal("TermAt", s, vars, row, at, part)
	}
	swapped, ok := impl.TermSwap(s, vars, row, at, u)
	wantSwapped, wantOk := swapByHand(s, vars, row, at, u)
	wantRow(t, swapped, ok, wantSwapped, wantOk, "TermSwap", s, vars, row, at, u)
	checkMatch(t, s, vars, row, others, u)
	wantText := ""
	if whole, ok := treeByHand(s, vars, row); ok {
		wantText = whole.text()
	}
	if text := impl.TermText(s, vars, row); text != wantText {
		t.Fatal("TermText", s, vars, row, text)
	}
	checkReadTerm(t, setting{s, others}, wantText)
}

// given is a set of arguments with capacity behind the end of each slice.
type given struct {
	s            impl.Sig
	vars, others []int
	t, u         []int
	terms        [][]int
}

func spareGiven(g given) given {
	terms := make([][]int, 0, len(g.terms)+2)
	for _, row := range g.terms {
		terms = append(terms, spareRow(row))
	}
	terms = append(terms, []int{spare}, []int{spare})
	return given{spareSig(g.s), spareRow(g.vars), spareRow(g.others), spareRow(g.t), spareRow(g.u), terms[:len(g.terms)]}
}

// whole returns all that can be reached from arguments, the spare capacity too, as a copy.
func (g given) whole() given {
	full := func(row []int) []int { return append([]int{}, row[:cap(row)]...) }
	w := given{s: wholeSig(g.s), vars: full(g.vars), others: full(g.others), t: full(g.t), u: full(g.u)}
	for _, row := range g.terms[:cap(g.terms)] {
		w.terms = append(w.terms, full(row))
	}
	return w
}

// results returns the rows that the functions of the chapter return for some arguments.
func (g given) results() [][]int {
	impl.VarsOk(g.s, g.vars)
	impl.TermSort(g.s, g.vars, g.t)
	impl.TermsFit(g.s, g.others, g.terms, g.vars)
	put, _ := impl.TermPut(g.s, g.vars, g.t, g.others, g.terms)
	rows := [][]int{put}
	for at := range g.t {
		rows = append(rows, impl.TermAt(g.s, g.vars, g.t, at))
		swapped, _ := impl.TermSwap(g.s, g.vars, g.t, at, g.u)
		rows = append(rows, swapped)
	}
	found, _ := impl.MatchOf(g.s, g.vars, g.t, g.vars, g.u)
	rows = append(rows, found...)
	matched, _ := impl.MatchOf(g.s, g.vars, g.t, g.others, put)
	rows = append(rows, matched...)
	read, _ := impl.ReadTerm(g.s, g.vars, impl.TermText(g.s, g.vars, g.t))
	return append(rows, read)
}

// No argument is written to, and no result shares memory with an argument or with another result.
func TestTermsShareNoMemory(t *testing.T) {
	r := rand.New(rand.NewSource(8))
	for i, c := range settings() {
		list := c.pool(int64(i+1000), 25)
		if len(list) == 0 {
			continue
		}
		for _, row := range list {
			others := setting{c.s, randomVars(r, c.s.Sorts)}
			terms, ok := others.termsFor(r, others.pool(r.Int63(), 8), c.vars)
			if !ok {
				others, terms = c, c.letters()
			}
			g := spareGiven(given{c.s, c.vars, others.vars, row, list[r.Intn(len(list))], terms})
			checkShared(t, g)
			checkShared(t, given{g.s, g.vars, g.vars, g.t, g.t, g.terms})
		}
	}
	s := sigOf("1:000,0,00")
	for _, terms := range [][][]int{{{1}, {1}}, {{100}, {100}}, {chain(14, 100), chain(14, 100)}} {
		g := spareGiven(given{s, []int{0, 0}, []int{0, 0}, []int{0, 100, 101}, []int{0, 100, 100}, terms})
		g.terms[1] = g.terms[0]
		checkShared(t, g)
	}
}

func checkShared(t *testing.T, g given) {
	t.Helper()
	before := g.whole()
	rows := g.results()
	if !reflect.DeepEqual(before, g.whole()) {
		t.Fatal("written to", before, g)
	}
	for i := range rows {
		scribbleRow(rows[i])
		for j := i + 1; j < len(rows); j++ {
			for _, number := range rows[j] {
				if number == spare {
					t.Fatal("results share memory", g, i, j)
				}
			}
		}
	}
	if !reflect.DeepEqual(before, g.whole()) {
		t.Fatal("shares memory with a result", before, g)
	}
	again := g.results()
	for i := range again {
		for _, number := range again[i] {
			if number == spare {
				t.Fatal("results of two calls share memory", g, i)
			}
		}
	}
}
