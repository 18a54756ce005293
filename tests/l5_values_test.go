package tests

import (
	"math"
	"math/rand"
	"slices"
	"testing"

	"loop.example/theorymodules/impl"
)

// checkValue compares the value of a term with what the document tells, and returns it.
func checkValue(t *testing.T, s impl.Sig, m impl.Model, vars, row, values []int) int {
	t.Helper()
	got, want := impl.ValueOf(s, m, vars, row, values), valueByHand(s, m, vars, row, values)
	if got != want {
		t.Fatal("got", got, "wanted", want, "for", s, m, vars, row, values)
	}
	return got
}

func TestP13ValuesOfPartsAreEnough(t *testing.T) {
	r := rand.New(rand.NewSource(63))
	parts := 0
	for i, c := range settings() {
		for _, m := range someModels(r, c.s, 3) {
			rows := allRows(sizesByHand(m, c.vars))
			for _, row := range c.pool(int64(i+4100), 25) {
				for range 3 {
					values := rows[r.Intn(len(rows))]
					value := checkValue(t, c.s, m, c.vars, row, values)
					if value < 0 || value >= m.Sizes[impl.TermSort(c.s, c.vars, row)] {
						t.Fatal("no value of its sort", c, m, row, values, value)
					}
					parts += checkParts(t, c, m, row, values, value)
				}
			}
		}
	}
	if parts < 10000 {
		t.Fatal(parts)
	}
}

// checkParts puts one more letter, for each part of a term, to its place, with the value of the part, and returns how many there were.
func checkParts(t *testing.T, c setting, m impl.Model, row, values []int, value int) int {
	t.Helper()
	if len(c.vars) == 4 {
		return 0
	}
	for at := range row {
		part := impl.TermAt(c.s, c.vars, row, at)
		more := joined(c.vars, []int{impl.TermSort(c.s, c.vars, part)})
		whole, ok := impl.TermSwap(c.s, more, row, at, []int{100 + len(c.vars)})
		if !ok {
			t.Fatal("not put", c, row, at)
		}
		longer := joined(values, []int{impl.ValueOf(c.s, m, c.vars, part, values)})
		if got := checkValue(t, c.s, m, more, whole, longer); got != value {
			t.Fatal("another value", c, m, row, values, at, value, got)
		}
	}
	return len(row)
}

// A letter that does not stand in the term may have any value, and another letter of the same sort with the same value may stand for it.
func TestValuesOfOtherLetters(t *testing.T) {
	r := rand.New(rand.NewSource(64))
	changed := 0
	for i, c := range settings() {
		for _, m := range someModels(r, c.s, 2) {
			rows := allRows(sizesByHand(m, c.vars))
			for _, row := range c.pool(int64(i+4200), 15) {
				values := rows[r.Intn(len(rows))]
				value := impl.ValueOf(c.s, m, c.vars, row, values)
				for letter, sort := range c.vars {
					if stands(row, letter) {
						continue
					}
					for other := range m.Sizes[sort] {
						some := slices.Clone(values)
						some[letter] = other
						if impl.ValueOf(c.s, m, c.vars, row, some) != value {
							t.Fatal(c, m, row, values, some)
						}
						changed++
					}
				}
			}
		}
	}
	if changed < 100 {
		t.Fatal(changed)
	}
}

func TestValuesOfTerms(t *testing.T) {
	s := sigOf("2:010,01,1,0")
	// f0 of a row of two and three values, f1 of two values, and the constants f2 and f3.
	m := modelOf([]int{2, 3}, []int{1, 0, 1, 0, 0, 1}, []int{2, 0}, []int{1}, []int{1})
	vars := []int{0, 1, 0, 1}
	for _, c := range []struct {
		text   string
		values []int
		want   int
	}{
		// A letter alone, and a constant alone.
		{"x0", []int{1, 0, 0, 0}, 1},
		{"x1", []int{0, 2, 0, 0}, 2},
		{"x2", []int{0, 0, 1, 0}, 1},
		{"x3", []int{0, 0, 0, 2}, 2},
		{"x3", []int{1, 2, 1, 0}, 0},
		{"f2", []int{0, 0, 0, 0}, 1},
		{"f3", []int{0, 2, 0, 2}, 1},
		// All rows of a table of two sorts.
		{"f0(x0,x1)", []int{0, 0, 0, 0}, 1},
		{"f0(x0,x1)", []int{0, 1, 0, 0}, 0},
		{"f0(x0,x1)", []int{0, 2, 0, 0}, 1},
		{"f0(x0,x1)", []int{1, 0, 0, 0}, 0},
		{"f0(x0,x1)", []int{1, 1, 0, 0}, 0},
		{"f0(x0,x1)", []int{1, 2, 0, 0}, 1},
		{"f1(x0)", []int{0, 0, 0, 0}, 2},
		{"f1(x0)", []int{1, 0, 0, 0}, 0},
		// Letters that stand twice.
		{"f0(x0,f1(x0))", []int{0, 0, 1, 1}, 1},
		{"f0(x0,f1(x0))", []int{1, 0, 0, 0}, 0},
		{"f0(f0(x2,x3),x3)", []int{0, 0, 1, 2}, 1},
		{"f0(f0(x2,x3),x3)", []int{0, 0, 0, 1}, 0},
		{"f0(f0(x2,x3),x1)", []int{0, 1, 0, 0}, 0},
		// Constants and letters within terms.
		{"f0(f3,f2)", []int{0, 0, 0, 0}, 0},
		{"f1(f3)", []int{0, 0, 0, 0}, 0},
		{"f1(f0(x0,f2))", []int{0, 2, 0, 0}, 2},
		{"f1(f0(f3,f1(x2)))", []int{0, 0, 0, 0}, 0},
		{"f1(f0(f3,f1(x2)))", []int{0, 0, 1, 0}, 2},
	} {
		row, ok := readByHand(s, vars, c.text)
		if !ok {
			t.Fatal("no term", c)
		}
		if got := impl.ValueOf(s, m, vars, row, c.values); got != c.want {
			t.Fatal(c, got)
		}
		checkValue(t, s, m, vars, row, c.values)
	}
	// Without letters.
	for _, values := range [][]int{nil, {}} {
		if got := impl.ValueOf(s, m, nil, []int{0, 3, 1, 3}, values); got != 0 {
			t.Fatal(got)
		}
	}
	// As many numbers as a term may have, and one more.
	turn := modelOf([]int{3}, []int{0, 1, 2, 1, 2, 0, 2, 0, 1}, []int{1}, []int{1, 2, 0})
	for numbers := 1; numbers < 33; numbers++ {
		want := (1 + numbers) % 3
		if numbers > 30 {
			want = -1
		}
		if got := impl.ValueOf(sigOf("1:000,0,00"), turn, []int{0, 0}, chain(numbers, 101), []int{0, 2}); got != want {
			t.Fatal(numbers, got, want)
		}
	}
}

func TestValuesOfWhatIsNone(t *testing.T) {
	s := sigOf("2:010,01,1,0")
	m := modelOf([]int{2, 3}, []int{1, 0, 1, 0, 0, 1}, []int{2, 0}, []int{1}, []int{1})
	vars, row, values := []int{0, 1}, []int{0, 100, 101}, []int{1, 2}
	none := func(s impl.Sig, m impl.Model, vars, row, values []int) {
		t.Helper()
		if got := impl.ValueOf(s, m, vars, row, values); got != -1 {
			t.Fatal(s, m, vars, row, values, got)
		}
	}
	if impl.ValueOf(s, m, vars, row, values) != 1 {
		t.Fatal("no value")
	}
	for _, bad := range [][]int{nil, {}, {-1}, {4}, {99}, {102}, {100, 100}, {0}, {0, 100}, {0, 101, 100}, {0, 100, 101, 101}, {1, 101}, {2, 100}, {math.MaxInt}, {math.MinInt}, {0, 100, 102}, {1, -1}} {
		none(s, m, vars, bad, values)
		none(s, m, vars, bad, nil)
	}
	for _, bad := range [][]int{nil, {}, {1}, {1, 2, 0}, {-1, 2}, {1, -1}, {2, 2}, {1, 3}, {0, math.MaxInt}, {math.MinInt, 0}, {100, 101}} {
		none(s, m, vars, row, bad)
		// What is asked of the values is asked for letters that do not stand in the term, too.
		none(s, m, vars, []int{2}, bad)
		none(s, m, vars, []int{100}, bad)
	}
	for _, bad := range badVars(2) {
		none(s, m, bad, row, values)
		none(s, m, bad, []int{2}, make([]int, len(bad)))
		none(s, m, bad, []int{100}, make([]int, len(bad)))
	}
	none(s, m, []int{1, 0}, row, []int{1, 1})
	none(s, m, []int{0}, row, []int{1})
	none(s, m, nil, row, nil)
	for _, bad := range badModels(s, m) {
		none(s, bad, vars, row, values)
		none(s, bad, vars, row, []int{0, 0})
		none(s, bad, vars, []int{101}, []int{0, 0})
		none(s, bad, nil, []int{2}, nil)
		none(s, bad, nil, []int{0, 3, 2}, nil)
	}
	for _, bad := range invalidSigs() {
		for _, other := range []impl.Model{oneValue(bad), m, {}} {
			none(bad, other, nil, []int{0}, nil)
			none(bad, other, []int{0}, []int{100}, []int{0})
			none(bad, other, []int{0, 0}, []int{0, 100, 101}, []int{0, 0})
		}
	}
}
