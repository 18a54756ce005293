package tests

import (
	"math/rand"
	"testing"

	"loop.example/theorymodules/impl"
)

// checkMatch compares what is found with what the document tells, and replaces the letters of the first term by it.
func checkMatch(t *testing.T, s impl.Sig, vars []int, p []int, others []int, u []int) {
	t.Helper()
	found, ok := impl.MatchOf(s, vars, p, others, u)
	want, wantOk := matchByHand(s, vars, p, others, u)
	if ok != wantOk || !sameRows(found, want) || !ok && found != nil {
		t.Fatal(s, vars, p, others, u, "found", found, ok, "wanted", want, wantOk)
	}
	if !ok {
		return
	}
	for letter := range vars {
		if stands(p, letter) != (len(found[letter]) > 0) {
			t.Fatal("a letter that does not stand in it", s, vars, p, u, found)
		}
		if stands(p, letter) && impl.TermSort(s, others, found[letter]) != vars[letter] {
			t.Fatal("of another sort", s, vars, p, u, found)
		}
		if !stands(p, letter) && sameRow(vars, others) {
			found[letter] = []int{100 + letter}
		}
	}
	if sameRow(vars, others) {
		put, ok := impl.TermPut(s, vars, p, others, found)
		wantRow(t, put, ok, u, true, "replaced", s, vars, p, found)
	}
}

func stands(row []int, letter int) bool {
	for _, number := range row {
		if number == 100+letter {
			return true
		}
	}
	return false
}

func TestP3MatchesReplaceRight(t *testing.T) {
	for i, c := range settings() {
		list := c.pool(int64(i+400), 60)
		for _, p := range list {
			for _, u := range list {
				checkMatch(t, c.s, c.vars, p, c.vars, u)
			}
			checkMatch(t, c.s, c.vars, p, c.vars, p)
		}
	}
}

func TestWhatComesOfReplacingLettersIsMatched(t *testing.T) {
	r := rand.New(rand.NewSource(5))
	for i, c := range settings() {
		for _, p := range c.pool(int64(i+500), 40) {
			for range 8 {
				others := setting{c.s, randomVars(r, c.s.Sorts)}
				terms, ok := others.termsFor(r, others.pool(r.Int63(), 12), c.vars)
				if !ok {
					continue
				}
				put, ok := impl.TermPut(c.s, c.vars, p, others.vars, terms)
				if !ok {
					continue
				}
				found, ok := impl.MatchOf(c.s, c.vars, p, others.vars, put)
				if !ok || len(found) != len(c.vars) {
					t.Fatal(c, p, others, terms, found, ok)
				}
				for letter := range terms {
					if stands(p, letter) && !sameRow(found[letter], terms[letter]) || !stands(p, letter) && len(found[letter]) > 0 {
						t.Fatal(c, p, others, terms, found)
					}
				}
				checkMatch(t, c.s, c.vars, p, others.vars, put)
			}
		}
	}
}

// There is a match exactly if parts of the second term, tried one after the other, lead from the first one to it.
func TestMatchesAreTried(t *testing.T) {
	for i, c := range settings() {
		var list [][]int
		for _, row := range c.pool(int64(i+600), 40) {
			if len(row) <= 5 {
				list = append(list, row)
			}
		}
		for _, p := range list {
			for _, u := range list {
				_, ok := impl.MatchOf(c.s, c.vars, p, c.vars, u)
				if ok != triedMatch(c, p, u, nil) {
					t.Fatal(c, p, u, ok)
				}
			}
		}
	}
}

func triedMatch(c setting, p, u []int, terms [][]int) bool {
	if len(terms) == len(c.vars) {
		put, ok := impl.TermPut(c.s, c.vars, p, c.vars, terms)
		return ok && sameRow(put, u)
	}
	letter := len(terms)
	if !stands(p, letter) {
		return triedMatch(c, p, u, append(terms[:letter:letter], []int{100 + letter}))
	}
	for at := range u {
		if triedMatch(c, p, u, append(terms[:letter:letter], impl.TermAt(c.s, c.vars, u, at))) {
			return true
		}
	}
	return false
}

func TestMatches(t *testing.T) {
	s, vars := sigOf("1:000,0,00"), []int{0, 0}
	two, mixed := sigOf("2:010,01,10,0,1"), []int{1, 0}
	long := joined([]int{2, 0}, chain(14, 1), chain(14, 1))
	for _, e := range []struct {
		s      impl.Sig
		vars   []int
		p      []int
		others []int
		t      []int
		want   [][]int
		ok     bool
	}{
		// A letter alone.
		{s, vars, []int{100}, vars, []int{0, 101, 1}, [][]int{{0, 101, 1}, nil}, true},
		{s, vars, []int{101}, vars, []int{101}, [][]int{nil, {101}}, true},
		{s, vars, []int{101}, nil, chain(30, 1), [][]int{nil, chain(30, 1)}, true},
		{two, mixed, []int{100}, nil, []int{4}, [][]int{{4}, nil}, true},
		{two, mixed, []int{101}, nil, []int{0, 3, 4}, [][]int{nil, {0, 3, 4}}, true},
		// A part of another sort than the letter.
		{two, mixed, []int{100}, nil, []int{3}, nil, false},
		{two, mixed, []int{101}, nil, []int{4}, nil, false},
		{two, mixed, []int{100}, []int{0}, []int{100}, nil, false},
		{two, mixed, []int{100}, []int{1}, []int{100}, [][]int{{100}, nil}, true},
		// Letters that stand twice.
		{s, vars, []int{0, 100, 100}, vars, []int{0, 2, 101, 2, 101}, [][]int{{2, 101}, nil}, true},
		{s, vars, []int{0, 100, 100}, vars, []int{0, 1, 101}, nil, false},
		{s, vars, []int{0, 100, 100}, vars, []int{0, 2, 101, 2, 100}, nil, false},
		{s, vars, []int{0, 100, 100}, vars, []int{0, 1, 2, 1}, nil, false},
		{s, vars, []int{0, 100, 100}, vars, []int{0, 2, 1, 1}, nil, false},
		{s, vars, []int{0, 0, 100, 101, 0, 101, 100}, nil, []int{0, 0, 1, 2, 1, 0, 2, 1, 1}, [][]int{{1}, {2, 1}}, true},
		{s, vars, []int{0, 0, 100, 101, 0, 101, 100}, nil, []int{0, 0, 1, 2, 1, 0, 1, 2, 1}, nil, false},
		{s, vars, []int{0, 101, 0, 101, 101}, vars, []int{0, 100, 0, 100, 100}, [][]int{nil, {100}}, true},
		{s, vars, []int{0, 101, 0, 101, 101}, vars, []int{0, 100, 0, 100, 101}, nil, false},
		{s, vars, []int{2, 0, 100, 100}, nil, long, [][]int{chain(14, 1), nil}, true},
		// Operations that differ, and a letter where the first term has an operation.
		{s, vars, []int{1}, vars, []int{1}, [][]int{nil, nil}, true},
		{s, vars, []int{1}, vars, []int{100}, nil, false},
		{s, vars, []int{2, 100}, vars, []int{100}, nil, false},
		{s, vars, []int{2, 100}, vars, []int{1}, nil, false},
		{s, vars, []int{0, 100, 1}, vars, []int{0, 100, 101}, nil, false},
		{s, vars, []int{0, 1, 100}, vars, []int{0, 2, 1, 100}, nil, false},
		{s, vars, []int{2, 2, 100}, vars, []int{2, 1}, nil, false},
		{two, mixed, []int{3}, nil, []int{4}, nil, false},
		// Letters are no others of the same number.
		{s, vars, []int{0, 100, 101}, vars, []int{0, 101, 100}, [][]int{{101}, {100}}, true},
		{s, vars, []int{0, 100, 101}, vars, []int{0, 100, 100}, [][]int{{100}, {100}}, true},
		{s, []int{0, 0, 0, 0}, []int{0, 101, 103}, []int{0, 0, 0}, []int{0, 102, 1}, [][]int{nil, {102}, nil, {1}}, true},
		// No letters at all.
		{s, nil, []int{2, 1}, vars, []int{2, 1}, nil, true},
		{s, nil, []int{2, 1}, vars, []int{2, 100}, nil, false},
		// What is no term.
		{s, vars, []int{100}, vars, nil, nil, false},
		{s, vars, nil, vars, nil, nil, false},
		{s, vars, nil, vars, []int{1}, nil, false},
		{s, vars, []int{102}, vars, []int{1}, nil, false},
		{s, vars, []int{100}, vars, []int{102}, nil, false},
		{s, vars, []int{100}, nil, []int{100}, nil, false},
		{s, nil, []int{100}, vars, []int{100}, nil, false},
		{s, vars, []int{0, 100}, vars, []int{0, 100}, nil, false},
		{s, vars, []int{100, 100}, vars, []int{1, 1}, nil, false},
		{s, vars, []int{100}, vars, chain(31, 1), nil, false},
		{s, vars, chain(31, 1), vars, chain(31, 1), nil, false},
	} {
		found, ok := impl.MatchOf(e.s, e.vars, e.p, e.others, e.t)
		if ok != e.ok || !sameRows(found, e.want) || !ok && found != nil {
			t.Fatal(e, "found", found, ok)
		}
		checkMatch(t, e.s, e.vars, e.p, e.others, e.t)
	}
	for _, bad := range badVars(1) {
		if found, ok := impl.MatchOf(s, bad, []int{1}, nil, []int{1}); ok || found != nil {
			t.Fatal(bad, found, ok)
		}
		if found, ok := impl.MatchOf(s, nil, []int{1}, bad, []int{1}); ok || found != nil {
			t.Fatal("others", bad, found, ok)
		}
	}
	for _, bad := range invalidSigs() {
		if found, ok := impl.MatchOf(bad, nil, []int{0}, nil, []int{0}); ok || found != nil {
			t.Fatal(bad, found, ok)
		}
	}
}
