package tests

import (
	"math"
	"math/rand"
	"testing"

	"loop.example/theorymodules/impl"
)

// The table of constants of the document.
func TestConstantsOfTerms(t *testing.T) {
	if impl.MaxTerm != 30 || impl.MaxVars != 4 || impl.LetterFirst != 100 {
		t.Fatal(impl.MaxTerm, impl.MaxVars, impl.LetterFirst)
	}
}

// numberRows calls check for all rows of at most so many numbers out of a list.
func numberRows(numbers []int, most int, row []int, check func([]int)) {
	check(row)
	if len(row) == most {
		return
	}
	for _, number := range numbers {
		numberRows(numbers, most, append(row[:len(row):len(row)], number), check)
	}
}

func TestP49ThereMayBeNoLetters(t *testing.T) {
	for _, s := range validSigs() {
		if !impl.VarsOk(s, nil) || !impl.VarsOk(s, []int{}) {
			t.Fatal("no letters", s)
		}
	}
	for _, s := range invalidSigs() {
		for _, vars := range [][]int{nil, {}, {0}, {0, 0, 0, 0}, {s.Sorts}, {-1}} {
			if impl.VarsOk(s, vars) {
				t.Fatal("taken", s, vars)
			}
		}
	}
}

func TestSortsOfLetters(t *testing.T) {
	for sorts := 1; sorts <= 3; sorts++ {
		s := impl.Sig{Sorts: sorts}
		numberRows([]int{-1, 0, 1, 2, 3}, 5, nil, func(vars []int) {
			want := len(vars) <= 4
			for _, sort := range vars {
				want = want && sort >= 0 && sort < sorts
			}
			if impl.VarsOk(s, vars) != want {
				t.Fatal(sorts, vars)
			}
		})
		for _, vars := range badVars(sorts) {
			if impl.VarsOk(s, vars) {
				t.Fatal("taken", sorts, vars)
			}
		}
		for letters := range 5 {
			if vars := make([]int, letters); !impl.VarsOk(s, vars) {
				t.Fatal("refused", sorts, vars)
			}
		}
	}
}

func TestP50PartsOfTermsAreTerms(t *testing.T) {
	for i, c := range settings() {
		for _, row := range c.pool(int64(i), 60) {
			if impl.TermSort(c.s, c.vars, row) != sortByHand(c.s, c.vars, row) || impl.TermSort(c.s, c.vars, row) < 0 {
				t.Fatal(c, row, impl.TermSort(c.s, c.vars, row))
			}
			for at := range row {
				part := impl.TermAt(c.s, c.vars, row, at)
				if len(part) == 0 || !sameRow(part, row[at:at+len(part)]) || impl.TermSort(c.s, c.vars, part) < 0 {
					t.Fatal(c, row, at, part)
				}
			}
			for behind := 95; behind < 106; behind++ {
				checkNoTerm(t, c, joined(row, []int{behind}))
				checkNoTerm(t, c, joined(row, []int{behind, behind}))
			}
			for op := range c.s.Ops {
				checkNoTerm(t, c, joined(row, []int{op}))
			}
			for shorter := range row {
				checkNoTerm(t, c, row[:shorter])
			}
		}
	}
}

func checkNoTerm(t *testing.T, c setting, row []int) {
	t.Helper()
	if sort := impl.TermSort(c.s, c.vars, row); sort != -1 {
		t.Fatal(c, row, sort)
	}
}

func TestSortsOfTerms(t *testing.T) {
	one, two := setting{sigOf("1:000,0,00"), []int{0, 0}}, setting{sigOf("2:010,01,10,0,1"), []int{1, 0}}
	for _, e := range []struct {
		c    setting
		row  []int
		want int
	}{
		{one, []int{100}, 0}, {one, []int{101}, 0}, {one, []int{1}, 0}, {one, []int{2, 1}, 0}, {one, []int{2, 101}, 0},
		{one, []int{0, 1, 1}, 0}, {one, []int{0, 100, 100}, 0}, {one, []int{0, 0, 1, 100, 2, 101}, 0},
		{two, []int{100}, 1}, {two, []int{101}, 0}, {two, []int{3}, 0}, {two, []int{4}, 1},
		{two, []int{1, 101}, 1}, {two, []int{2, 100}, 0}, {two, []int{0, 101, 100}, 0}, {two, []int{1, 0, 3, 4}, 1},
		// Parts of another sort than is taken, deeper ones and last ones too.
		{two, []int{1, 100}, -1}, {two, []int{2, 101}, -1}, {two, []int{0, 100, 101}, -1}, {two, []int{0, 101, 101}, -1}, {two, []int{0, 100, 100}, -1},
		{two, []int{1, 4}, -1}, {two, []int{2, 1, 4}, -1}, {two, []int{0, 3, 2, 100}, -1}, {two, []int{2, 1, 0, 3, 3}, -1},
		// Letters and operations that there are not.
		{one, []int{102}, -1}, {one, []int{99}, -1}, {one, []int{0, 100, 102}, -1}, {one, []int{3}, -1}, {one, []int{-1}, -1}, {one, []int{2, -1}, -1},
		{one, []int{2, 3}, -1}, {one, []int{0, 3, 100}, -1}, {one, []int{math.MinInt}, -1}, {one, []int{math.MaxInt}, -1}, {one, []int{2, math.MinInt}, -1},
		{one, []int{math.MinInt + 99}, -1}, {one, []int{math.MinInt + 100}, -1}, {one, []int{104}, -1},
		// Too short, something behind, and nothing.
		{one, []int{0}, -1}, {one, []int{2}, -1}, {one, []int{0, 100}, -1}, {one, []int{0, 2, 100}, -1}, {one, []int{0, 0, 1, 1}, -1},
		{one, []int{100, 100}, -1}, {one, []int{1, 100}, -1}, {one, []int{1, 1}, -1}, {one, []int{2, 1, 101}, -1}, {one, []int{0, 1, 1, 100, 101}, -1}, {one, []int{100, 2}, -1},
		{one, nil, -1}, {one, []int{}, -1}, {two, nil, -1}, {setting{sigOf("1:"), nil}, nil, -1}, {setting{sigOf("1:"), nil}, []int{100}, -1}, {setting{sigOf("1:"), nil}, []int{0}, -1},
	} {
		if got := impl.TermSort(e.c.s, e.c.vars, e.row); got != e.want {
			t.Fatal(e.c, e.row, got, e.want)
		}
	}
	for _, bad := range badVars(1) {
		checkNoTerm(t, setting{one.s, bad}, []int{1})
		checkNoTerm(t, setting{one.s, bad}, []int{100})
	}
	for _, bad := range invalidSigs() {
		checkNoTerm(t, setting{bad, nil}, []int{0})
		checkNoTerm(t, setting{bad, []int{0}}, []int{100})
	}
}

func TestLongTerms(t *testing.T) {
	c := setting{sigOf("1:000,0,00"), []int{0}}
	pairs := func(ops int) []int { // as many operations of two terms, each with a letter behind it
		var row []int
		for range ops {
			row = append(row, 0, 100)
		}
		return append(row, 1)
	}
	for numbers := 1; numbers <= 40; numbers++ {
		want := 0
		if numbers > 30 {
			want = -1
		}
		rows := [][]int{chain(numbers, 1), chain(numbers, 100)}
		if numbers%2 == 1 {
			rows = append(rows, pairs(numbers/2))
		}
		if numbers >= 2 && numbers%2 == 0 {
			rows = append(rows, joined([]int{2}, pairs(numbers/2-1)))
		}
		for _, row := range rows {
			if len(row) != numbers || impl.TermSort(c.s, c.vars, row) != want {
				t.Fatal(numbers, row, impl.TermSort(c.s, c.vars, row))
			}
			if part := impl.TermAt(c.s, c.vars, row, 0); want == 0 && !sameRow(part, row) || want < 0 && part != nil {
				t.Fatal(numbers, row, part)
			}
			if text := impl.TermText(c.s, c.vars, row); (text == "") != (want < 0) {
				t.Fatal(numbers, row, text)
			}
		}
	}
	checkNoTerm(t, c, chain(3000000, 1))
	checkNoTerm(t, c, chain(3000000, 2))
}

// All short rows of numbers that there are, and of some that there are not.
func TestShortRows(t *testing.T) {
	for _, c := range settings()[:15] {
		numbers := []int{-1, len(c.s.Ops), 99, 100 + len(c.vars)}
		for op := range c.s.Ops {
			numbers = append(numbers, op)
		}
		for letter := range c.vars {
			numbers = append(numbers, 100+letter)
		}
		numberRows(numbers, 4, nil, func(row []int) {
			if got := impl.TermSort(c.s, c.vars, row); got != sortByHand(c.s, c.vars, row) {
				t.Fatal(c, row, got)
			}
		})
	}
}

func TestP51LettersFitThemselves(t *testing.T) {
	for _, c := range settings() {
		letters := c.letters()
		if !impl.TermsFit(c.s, c.vars, letters, c.vars) {
			t.Fatal(c)
		}
		if impl.TermsFit(c.s, c.vars, append(letters, []int{100}), c.vars) || impl.TermsFit(c.s, c.vars, letters, append([]int{0}, c.vars...)) {
			t.Fatal("too many", c)
		}
		if len(c.vars) == 0 {
			continue
		}
		last := len(c.vars) - 1
		if impl.TermsFit(c.s, c.vars, letters[:last], c.vars) || impl.TermsFit(c.s, c.vars, letters, c.vars[:last]) || impl.TermsFit(c.s, c.vars, nil, c.vars) {
			t.Fatal("too few", c)
		}
		for i := range letters {
			for _, sort := range []int{-1, 0, 1, 2, 3} {
				sorts := append([]int{}, c.vars...)
				sorts[i] = sort
				if impl.TermsFit(c.s, c.vars, letters, sorts) != (sort == c.vars[i]) {
					t.Fatal("another sort", c, sorts)
				}
			}
			for _, none := range [][]int{nil, {}, {100 + len(c.vars)}, {-1}, {100, 100}} {
				terms := append([][]int{}, letters...)
				terms[i] = none
				if impl.TermsFit(c.s, c.vars, terms, c.vars) {
					t.Fatal("no term", c, terms)
				}
			}
		}
	}
}

func TestTermsFit(t *testing.T) {
	s := sigOf("2:010,01,10,0,1")
	vars := []int{1, 0}
	many := [][]int{{3}, {4}, {101}, {100}, {0, 101, 100}, {1, 3}, {2, 4}}
	sorts := []int{0, 1, 0, 1, 0, 1, 0}
	if !impl.TermsFit(s, vars, many, sorts) || !impl.TermsFit(s, vars, nil, nil) || !impl.TermsFit(s, nil, [][]int{}, []int{}) || !impl.TermsFit(s, nil, [][]int{{3}}, []int{0}) {
		t.Fatal("refused")
	}
	if impl.TermsFit(s, nil, many, sorts) || impl.TermsFit(s, vars, many, []int{0, 1, 0, 1, 0, 1, 1}) || impl.TermsFit(s, vars, many, sorts[1:]) {
		t.Fatal("taken")
	}
	// -1 is what TermSort returns of what is no term, and no sort.
	for _, none := range [][]int{nil, {102}, {-1}, {1, 4}, chain(31, 3)} {
		if impl.TermsFit(s, vars, [][]int{none}, []int{-1}) {
			t.Fatal("no term of no sort", none)
		}
	}
	for _, bad := range badVars(2) {
		if impl.TermsFit(s, bad, nil, nil) || impl.TermsFit(s, bad, [][]int{{3}}, []int{0}) {
			t.Fatal("letters that there are not", bad)
		}
	}
	for _, bad := range invalidSigs() {
		if impl.TermsFit(bad, nil, nil, nil) || impl.TermsFit(bad, nil, [][]int{{0}}, []int{0}) || impl.TermsFit(bad, nil, [][]int{{0}}, []int{-1}) {
			t.Fatal("no signature", bad)
		}
	}
}

func TestP52ThePartAtTheBeginningIsTheTerm(t *testing.T) {
	for i, c := range settings() {
		for _, row := range c.pool(int64(i+100), 60) {
			if part := impl.TermAt(c.s, c.vars, row, 0); !sameRow(part, row) {
				t.Fatal(c, row, part)
			}
			for at := range row {
				part := impl.TermAt(c.s, c.vars, row, at)
				if !sameRow(part, atByHand(c.s, c.vars, row, at)) || len(part) > len(row)-at || len(part) == 0 {
					t.Fatal(c, row, at, part)
				}
			}
			for _, at := range []int{math.MinInt, -1, len(row), len(row) + 1, math.MaxInt} {
				if part := impl.TermAt(c.s, c.vars, row, at); part != nil {
					t.Fatal(c, row, at, part)
				}
			}
		}
	}
	s, row := sigOf("1:000,0,00"), []int{0, 100, 0, 1, 2, 101}
	for at, want := range [][]int{{0, 100, 0, 1, 2, 101}, {100}, {0, 1, 2, 101}, {1}, {2, 101}, {101}, nil} {
		if part := impl.TermAt(s, []int{0, 0}, row, at); !sameRow(part, want) {
			t.Fatal(at, part)
		}
	}
	// The part would be a term, but the whole is none.
	for _, none := range [][]int{{0, 100}, {100, 100}, {1, 100}, {2, 1, 100}, chain(31, 1), {2, 102}, {0, 1, 102}, nil} {
		for at := range len(none) + 1 {
			if part := impl.TermAt(s, []int{0, 0}, none, at); part != nil {
				t.Fatal(none, at, part)
			}
		}
	}
	for _, bad := range badVars(1) {
		if part := impl.TermAt(s, bad, []int{1}, 0); part != nil {
			t.Fatal(bad, part)
		}
	}
	for _, bad := range invalidSigs() {
		if part := impl.TermAt(bad, nil, []int{0}, 0); part != nil {
			t.Fatal(bad, part)
		}
	}
}

func TestP1ReplacedTwiceIsReplacedOnce(t *testing.T) {
	r := rand.New(rand.NewSource(4))
	for i, c := range settings() {
		list := c.pool(int64(i+200), 60)
		for _, row := range list {
			same, ok := impl.TermPut(c.s, c.vars, row, c.vars, c.letters())
			wantRow(t, same, ok, row, true, "by themselves", c)
			for range 8 {
				others := setting{c.s, randomVars(r, c.s.Sorts)}
				further := setting{c.s, randomVars(r, c.s.Sorts)}
				terms, okTerms := others.termsFor(r, others.pool(r.Int63(), 12), c.vars)
				later, okLater := further.termsFor(r, further.pool(r.Int63(), 12), others.vars)
				if okTerms && okLater {
					checkPutTwice(t, c, row, others, terms, further, later)
				}
			}
		}
	}
}

func randomVars(r *rand.Rand, sorts int) []int {
	vars := make([]int, r.Intn(5))
	for i := range vars {
		vars[i] = r.Intn(sorts)
	}
	return vars
}

func checkPutTwice(t *testing.T, c setting, row []int, others setting, terms [][]int, further setting, later [][]int) {
	t.Helper()
	once, ok := impl.TermPut(c.s, c.vars, row, others.vars, terms)
	want, wantOk := putByHand(c.s, c.vars, row, others.vars, terms)
	wantRow(t, once, ok, want, wantOk, c, row, others, terms)
	if !ok {
		return
	}
	if impl.TermSort(c.s, others.vars, once) != impl.TermSort(c.s, c.vars, row) {
		t.Fatal("the sort does not stay", c, row, others, once)
	}
	twice, okTwice := impl.TermPut(c.s, others.vars, once, further.vars, later)
	var both [][]int
	for _, u := range terms {
		put, ok := impl.TermPut(c.s, others.vars, u, further.vars, later)
		if !ok {
			return
		}
		both = append(both, put)
	}
	atOnce, okAtOnce := impl.TermPut(c.s, c.vars, row, further.vars, both)
	wantRow(t, twice, okTwice, atOnce, okAtOnce, "replaced again", c, row, terms, later)
}

func TestTermsInWhichLettersAreReplaced(t *testing.T) {
	s, vars, none := sigOf("1:000,0,00"), []int{0, 0}, []int(nil)
	two := sigOf("2:010,01,10,0,1")
	for _, e := range []struct {
		s      impl.Sig
		vars   []int
		t      []int
		others []int
		terms  [][]int
		want   []int
	}{
		{s, vars, []int{100}, vars, [][]int{{101}, {100}}, []int{101}},
		{s, vars, []int{0, 100, 101}, vars, [][]int{{101}, {100}}, []int{0, 101, 100}},
		{s, vars, []int{0, 100, 100}, vars, [][]int{{2, 100}, {1}}, []int{0, 2, 100, 2, 100}},
		{s, vars, []int{0, 101, 101}, none, [][]int{{1}, {2, 1}}, []int{0, 2, 1, 2, 1}},
		{s, vars, []int{1}, none, [][]int{{1}, {1}}, []int{1}},
		{s, none, []int{2, 1}, vars, nil, []int{2, 1}},
		{s, vars, []int{101}, []int{0, 0, 0, 0}, [][]int{{100}, {0, 103, 102}}, []int{0, 103, 102}},
		{two, []int{1, 0}, []int{0, 101, 100}, []int{0, 1}, [][]int{{1, 100}, {2, 101}}, []int{0, 2, 101, 1, 100}},
		// Of exactly 30 numbers, and of more; letters that do not stand in the term do not count.
		{s, vars, chain(15, 100), vars, [][]int{chain(16, 1), chain(30, 1)}, chain(30, 1)},
		{s, vars, chain(15, 100), vars, [][]int{chain(17, 1), {1}}, nil},
		{s, vars, chain(30, 100), vars, [][]int{{101}, {1}}, chain(30, 101)},
		{s, vars, chain(30, 101), vars, [][]int{{101}, {2, 1}}, nil},
		{s, vars, []int{2, 0, 100, 100}, vars, [][]int{chain(14, 1), {1}}, joined([]int{2, 0}, chain(14, 1), chain(14, 1))},
		{s, vars, []int{0, 100, 100}, vars, [][]int{chain(15, 1), {1}}, nil},
		{s, vars, []int{100}, vars, [][]int{chain(30, 100), {1}}, chain(30, 100)},
		{s, vars, []int{100}, vars, [][]int{chain(31, 100), {1}}, nil},
		{s, vars, []int{101}, vars, [][]int{chain(31, 100), {1}}, nil},
		{s, vars, joined([]int{0}, chain(14, 100), chain(15, 101)), vars, [][]int{{1}, {1}}, joined([]int{0}, chain(14, 1), chain(15, 1))},
		{s, vars, joined([]int{0}, chain(14, 100), chain(15, 101)), vars, [][]int{{1}, {2, 1}}, nil},
		// Too few and too many terms, of another sort, and such that are none.
		{s, vars, []int{100}, vars, [][]int{{1}}, nil},
		{s, vars, []int{100}, vars, [][]int{{1}, {1}, {1}}, nil},
		{s, vars, []int{1}, vars, nil, nil},
		{s, none, []int{1}, vars, [][]int{{1}}, nil},
		{s, vars, []int{100}, vars, [][]int{{1}, {}}, nil},
		{s, vars, []int{100}, vars, [][]int{{102}, {1}}, nil},
		{s, vars, []int{100}, none, [][]int{{100}, {1}}, nil},
		{two, []int{1, 0}, []int{100}, none, [][]int{{3}, {3}}, nil},
		{two, []int{1, 0}, []int{100}, none, [][]int{{4}, {4}}, nil},
		{two, []int{1, 0}, []int{4}, none, [][]int{{4}, {4}}, nil},
		// What is no term.
		{s, vars, nil, vars, [][]int{{1}, {1}}, nil},
		{s, vars, []int{102}, vars, [][]int{{1}, {1}}, nil},
		{s, vars, []int{0, 100}, vars, [][]int{{1}, {1}}, nil},
		{s, vars, []int{100, 101}, vars, [][]int{{2}, {1}}, nil},
		{s, vars, []int{2, 2}, vars, [][]int{{1}, {1}}, nil},
	} {
		got, ok := impl.TermPut(e.s, e.vars, e.t, e.others, e.terms)
		wantRow(t, got, ok, e.want, e.want != nil, e)
	}
	for _, bad := range badVars(1) {
		got, ok := impl.TermPut(s, bad, []int{1}, none, make([][]int, len(bad)))
		wantRow(t, got, ok, nil, false, "letters", bad)
		got, ok = impl.TermPut(s, none, []int{1}, bad, nil)
		wantRow(t, got, ok, nil, false, "other letters", bad)
	}
	for _, bad := range invalidSigs() {
		got, ok := impl.TermPut(bad, none, []int{0}, none, nil)
		wantRow(t, got, ok, nil, false, bad)
	}
}

func TestP2WhatIsPutThereStandsThere(t *testing.T) {
	r := rand.New(rand.NewSource(9))
	for i, c := range settings() {
		list := c.pool(int64(i+300), 40)
		for _, row := range list {
			for at := range row {
				for range 6 {
					checkSwap(t, c, row, at, list[r.Intn(len(list))])
				}
			}
			for _, at := range []int{math.MinInt, -1, len(row), len(row) + 1, math.MaxInt} {
				got, ok := impl.TermSwap(c.s, c.vars, row, at, row)
				wantRow(t, got, ok, nil, false, c, row, at)
			}
		}
	}
}

func checkSwap(t *testing.T, c setting, row []int, at int, u []int) {
	t.Helper()
	swapped, ok := impl.TermSwap(c.s, c.vars, row, at, u)
	want, wantOk := swapByHand(c.s, c.vars, row, at, u)
	wantRow(t, swapped, ok, want, wantOk, c, row, at, u)
	if !ok {
		return
	}
	if part := impl.TermAt(c.s, c.vars, swapped, at); !sameRow(part, u) {
		t.Fatal("does not stand there", c, row, at, u, swapped, part)
	}
	if impl.TermSort(c.s, c.vars, swapped) != impl.TermSort(c.s, c.vars, row) {
		t.Fatal("the sort does not stay", c, row, at, u, swapped)
	}
	back, ok := impl.TermSwap(c.s, c.vars, swapped, at, impl.TermAt(c.s, c.vars, row, at))
	wantRow(t, back, ok, row, true, "put back", c, at, u)
}

func TestPartsThatAreReplaced(t *testing.T) {
	s, vars := sigOf("1:000,0,00"), []int{0, 0}
	two := sigOf("2:010,01,10,0,1")
	for _, e := range []struct {
		s    impl.Sig
		vars []int
		t    []int
		at   int
		u    []int
		want []int
	}{
		{s, vars, []int{0, 100, 101}, 1, []int{2, 1}, []int{0, 2, 1, 101}},
		{s, vars, []int{0, 100, 101}, 2, []int{2, 1}, []int{0, 100, 2, 1}},
		{s, vars, []int{0, 2, 1, 101}, 1, []int{100}, []int{0, 100, 101}},
		{s, vars, []int{0, 2, 1, 101}, 0, []int{100}, []int{100}},
		{s, vars, []int{100}, 0, []int{0, 101, 101}, []int{0, 101, 101}},
		{s, vars, []int{100}, 0, []int{100}, []int{100}},
		{two, vars, []int{0, 3, 4}, 2, []int{1, 3}, []int{0, 3, 1, 3}},
		// Another sort.
		{two, vars, []int{0, 3, 4}, 2, []int{3}, nil},
		{two, vars, []int{0, 3, 4}, 1, []int{4}, nil},
		{two, vars, []int{3}, 0, []int{4}, nil},
		{two, vars, []int{1, 3}, 0, []int{3}, nil},
		// Of exactly 30 numbers, and of more.
		{s, vars, chain(16, 1), 15, chain(15, 100), chain(30, 100)},
		{s, vars, chain(16, 1), 15, chain(16, 100), nil},
		{s, vars, chain(30, 1), 0, chain(30, 100), chain(30, 100)},
		{s, vars, chain(30, 1), 29, []int{100}, chain(30, 100)},
		{s, vars, chain(30, 1), 29, []int{2, 1}, nil},
		{s, vars, chain(30, 1), 28, []int{2, 100}, chain(30, 100)},
		{s, vars, joined([]int{0}, chain(14, 1), chain(14, 1)), 1, chain(15, 1), joined([]int{0}, chain(15, 1), chain(14, 1))},
		{s, vars, joined([]int{0}, chain(14, 1), chain(14, 1)), 1, chain(16, 1), nil},
		// Places that there are not, and what is no term.
		{s, vars, []int{100}, 1, []int{1}, nil},
		{s, vars, []int{100}, -1, []int{1}, nil},
		{s, vars, []int{0, 100}, 1, []int{1}, nil},
		{s, vars, nil, 0, []int{1}, nil},
		{s, vars, []int{1}, 0, nil, nil},
		{s, vars, []int{1}, 0, []int{102}, nil},
		{s, vars, []int{1}, 0, []int{1, 1}, nil},
		{s, vars, []int{2, 1}, 0, []int{2}, nil},
		{s, vars, chain(31, 1), 0, []int{1}, nil},
		{s, vars, []int{1}, 0, chain(31, 1), nil},
		{s, vars, []int{102}, 0, []int{102}, nil},
		{s, nil, []int{1}, 0, []int{100}, nil},
	} {
		got, ok := impl.TermSwap(e.s, e.vars, e.t, e.at, e.u)
		wantRow(t, got, ok, e.want, e.want != nil, e)
	}
	for _, bad := range badVars(1) {
		got, ok := impl.TermSwap(s, bad, []int{1}, 0, []int{1})
		wantRow(t, got, ok, nil, false, bad)
	}
	for _, bad := range invalidSigs() {
		got, ok := impl.TermSwap(bad, nil, []int{0}, 0, []int{0})
		wantRow(t, got, ok, nil, false, bad)
	}
}
