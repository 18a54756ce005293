package tests

import (
	"math"
	"math/rand"
	"slices"
	"testing"

	"loop.example/theorymodules/impl"
)

// The table of constants of the document.
func TestConstantsOfModels(t *testing.T) {
	if impl.MaxSize != 3 {
		t.Fatal(impl.MaxSize)
	}
}

func TestP66OneValueIsEnough(t *testing.T) {
	r := rand.New(rand.NewSource(61))
	for _, s := range validSigs() {
		one := oneValue(s)
		if !impl.ModelOk(s, one) {
			t.Fatal("refused", s, one)
		}
		// From no value of a sort up to one more than there may be, with tables that fit.
		for _, sizes := range allRows([]int{5, 5, 5}[:s.Sorts]) {
			want := slices.Min(sizes) >= 1 && slices.Max(sizes) <= 3
			if impl.ModelOk(s, zeroModel(s, sizes)) != want {
				t.Fatal(s, sizes, want)
			}
		}
		for _, m := range someModels(r, s, 2) {
			if !impl.ModelOk(s, m) || !modelByHand(s, m) {
				t.Fatal("refused", s, m)
			}
			for _, bad := range badModels(s, m) {
				if impl.ModelOk(s, bad) {
					t.Fatal("taken", s, bad)
				}
			}
		}
	}
	for _, bad := range invalidSigs() {
		if impl.ModelOk(bad, oneValue(bad)) || impl.ModelOk(bad, impl.Model{}) || impl.ModelOk(bad, oneValue(sigOf("1:"))) || impl.ModelOk(bad, oneValue(sigOf("3:0,01,012"))) {
			t.Fatal("taken", bad)
		}
	}
}

func TestModels(t *testing.T) {
	for _, c := range []struct {
		s  string
		m  impl.Model
		ok bool
	}{
		// Without operations.
		{"1:", modelOf([]int{3}), true},
		{"1:", impl.Model{Sizes: []int{1}, Tables: [][]int{}}, true},
		{"3:", modelOf([]int{1, 3, 2}), true},
		{"1:", modelOf([]int{0}), false},
		{"1:", modelOf([]int{4}), false},
		{"1:", modelOf(nil), false},
		{"1:", modelOf([]int{1, 1}), false},
		{"2:", modelOf([]int{1}), false},
		{"3:", modelOf([]int{1, 1, 0}), false},
		{"3:", modelOf([]int{4, 1, 1}), false},
		{"1:", modelOf([]int{1}, []int{0}), false},
		{"1:", modelOf([]int{1}, nil), false},
		// Constants.
		{"1:0", modelOf([]int{3}, []int{2}), true},
		{"1:0", modelOf([]int{3}, []int{3}), false},
		{"1:0", modelOf([]int{3}, []int{-1}), false},
		{"1:0", modelOf([]int{3}, []int{}), false},
		{"1:0", modelOf([]int{3}, []int{0, 0}), false},
		{"1:0", modelOf([]int{3}, []int{0, 0, 0}), false},
		{"1:0", modelOf([]int{3}), false},
		{"2:1,0", modelOf([]int{1, 3}, []int{2}, []int{0}), true},
		{"2:1,0", modelOf([]int{1, 3}, []int{0}, []int{1}), false},
		// A value is one of the sort that is left, and not of one that is taken.
		{"2:01", modelOf([]int{3, 2}, []int{0, 1, 1}), true},
		{"2:01", modelOf([]int{3, 2}, []int{0, 1, 2}), false},
		{"2:01", modelOf([]int{2, 3}, []int{2, 2}), true},
		{"2:01", modelOf([]int{2, 3}, []int{2, 3}), false},
		{"2:01", modelOf([]int{2, 3}, []int{2, 2, 2}), false},
		{"2:01", modelOf([]int{2, 3}, []int{2}), false},
		// Operations of two sorts of different sizes.
		{"2:010", modelOf([]int{2, 3}, []int{0, 1, 0, 1, 1, 1}), true},
		{"2:010", modelOf([]int{2, 3}, []int{0, 1, 0, 1, 1, 2}), false},
		{"2:010", modelOf([]int{2, 3}, []int{0, 1, 0, 1}), false},
		{"2:010", modelOf([]int{2, 3}, []int{0, 1, 0, 1, 1, 1, 0, 0, 0}), false},
		{"2:010", modelOf([]int{2, 3}, []int{0, 1, 0, 1, 1}), false},
		{"2:010", modelOf([]int{2, 3}, []int{0, 1, 0, 1, 1, 1, 0}), false},
		{"2:011", modelOf([]int{2, 3}, []int{0, 1, 2, 2, 2, 2}), true},
		{"2:011", modelOf([]int{2, 3}, []int{0, 1, 2, 2, 2, 3}), false},
		{"3:012", modelOf([]int{3, 1, 2}, []int{0, 1, 1}), true},
		{"3:012", modelOf([]int{3, 1, 2}, []int{0, 1, 2}), false},
		{"3:012", modelOf([]int{3, 3, 1}, []int{0, 0, 0, 0, 0, 0, 0, 0, 0}), true},
		// Tables that stand in the wrong order.
		{"1:000,0,00", modelOf([]int{2}, []int{0, 1, 1, 0}, []int{0}, []int{0, 1}), true},
		{"1:000,0,00", modelOf([]int{2}, []int{0}, []int{0, 1, 1, 0}, []int{0, 1}), false},
		{"1:000,0,00", modelOf([]int{2}, []int{0, 1, 1, 0}, []int{0, 1}, []int{0}), false},
		{"1:000,0,00", modelOf([]int{2}, []int{0, 1, 1, 0}, []int{0}), false},
		{"1:000,0,00", modelOf([]int{2}, []int{0, 1, 1, 0}, []int{0}, []int{0, 1}, []int{0}), false},
		// Sizes of which the product is that of others, and such of which it is very large or 0.
		{"1:00", modelOf([]int{math.MaxInt}, []int{0}), false},
		{"1:000", modelOf([]int{1 << 32}, nil), false},
		{"1:000", modelOf([]int{-2}, []int{0, 0, 0, 0}), false},
		{"1:00", modelOf([]int{0}, nil), false},
		{"2:010", modelOf([]int{0, 3}, nil), false},
	} {
		if got := impl.ModelOk(sigOf(c.s), c.m); got != c.ok || modelByHand(sigOf(c.s), c.m) != c.ok {
			t.Fatal(c, got)
		}
	}
}

// Of all rows of a few numbers just those that fit are tables.
func TestTablesAreTried(t *testing.T) {
	for _, c := range []struct {
		s     string
		sizes []int
		want  int
	}{
		{"1:0", []int{1}, 1},
		{"1:0", []int{3}, 3},
		{"1:00", []int{2}, 4},
		{"1:00", []int{3}, 27},
		{"1:000", []int{2}, 16},
		{"2:01", []int{2, 3}, 9},
		{"2:01", []int{3, 2}, 8},
		{"2:10", []int{2, 3}, 8},
		{"2:010", []int{2, 2}, 16},
		{"2:011", []int{1, 3}, 27},
		{"3:012", []int{2, 2, 3}, 81},
		{"3:012", []int{1, 2, 3}, 9},
		{"3:012", []int{3, 1, 1}, 1},
	} {
		many := 0
		numberRows([]int{-1, 0, 1, 2, 3}, 5, nil, func(row []int) {
			m := modelOf(c.sizes, row)
			ok := impl.ModelOk(sigOf(c.s), m)
			if ok != modelByHand(sigOf(c.s), m) {
				t.Fatal(c, row, ok)
			}
			if ok {
				many++
			}
		})
		if many != c.want {
			t.Fatal(c, many)
		}
	}
}

func TestP67ZeroIsAValue(t *testing.T) {
	r := rand.New(rand.NewSource(62))
	for _, c := range settings() {
		for _, m := range someModels(r, c.s, 6) {
			for many := range len(c.vars) + 1 {
				checkValues(t, c.s, m, c.vars[:many])
			}
			for _, vars := range badVars(c.s.Sorts) {
				if impl.ValuesOk(c.s, m, vars, make([]int, len(vars))) || impl.ValuesOk(c.s, m, vars, nil) {
					t.Fatal("letters", c, m, vars)
				}
			}
			for _, bad := range badModels(c.s, m) {
				if impl.ValuesOk(c.s, bad, c.vars, make([]int, len(c.vars))) || impl.ValuesOk(c.s, bad, nil, nil) {
					t.Fatal("no model", c, bad)
				}
			}
		}
	}
	for _, bad := range invalidSigs() {
		if impl.ValuesOk(bad, oneValue(bad), nil, nil) || impl.ValuesOk(bad, oneValue(bad), []int{0}, []int{0}) || impl.ValuesOk(bad, oneValue(sigOf("1:")), nil, nil) || impl.ValuesOk(bad, impl.Model{}, nil, nil) {
			t.Fatal("no signature", bad)
		}
	}
}

// checkValues looks which rows are values of some letters: zeros are, with one number that is changed just those below the size of its sort, and none with a number too few or too many.
func checkValues(t *testing.T, s impl.Sig, m impl.Model, vars []int) {
	t.Helper()
	zeros := make([]int, len(vars))
	if !impl.ValuesOk(s, m, vars, zeros) {
		t.Fatal("0 is no value", s, m, vars)
	}
	if impl.ValuesOk(s, m, vars, joined(zeros, []int{0})) || len(vars) > 0 && impl.ValuesOk(s, m, vars, zeros[1:]) {
		t.Fatal("too few or too many", s, m, vars)
	}
	for i, sort := range vars {
		for _, value := range []int{-1, 0, 1, 2, 3, 4, m.Sizes[sort] - 1, m.Sizes[sort], math.MaxInt, math.MinInt} {
			values := slices.Clone(zeros)
			values[i] = value
			if want := value >= 0 && value < m.Sizes[sort]; impl.ValuesOk(s, m, vars, values) != want {
				t.Fatal(s, m, vars, values, want)
			}
		}
	}
}

func TestValues(t *testing.T) {
	s := sigOf("3:012,2")
	m := modelOf([]int{2, 3, 1}, []int{0, 0, 0, 0, 0, 0}, []int{0})
	for _, c := range []struct {
		vars, values []int
		ok           bool
	}{
		// No letters.
		{nil, nil, true},
		{[]int{}, []int{}, true},
		{nil, []int{0}, false},
		{nil, []int{-1}, false},
		{nil, make([]int, 1000), false},
		// The last value of each sort, and the one behind it.
		{[]int{0, 1, 2}, []int{1, 2, 0}, true},
		{[]int{0, 1, 2}, []int{2, 2, 0}, false},
		{[]int{0, 1, 2}, []int{1, 3, 0}, false},
		{[]int{0, 1, 2}, []int{1, 2, 1}, false},
		{[]int{0, 1, 2}, []int{0, -1, 0}, false},
		{[]int{2, 1, 0}, []int{0, 2, 1}, true},
		{[]int{2, 1, 0}, []int{1, 2, 0}, false},
		{[]int{1, 1, 0, 1}, []int{2, 0, 1, 2}, true},
		{[]int{1, 1, 0, 1}, []int{2, 0, 2, 1}, false},
		{[]int{1, 1, 0, 1}, []int{2, 0, 1}, false},
		{[]int{1, 1, 0, 1}, []int{2, 0, 1, 2, 0}, false},
		{[]int{1, 1, 0, 1}, nil, false},
		// Letters that are not those of the signature.
		{[]int{1, 1, 0, 1, 1}, []int{0, 0, 0, 0, 0}, false},
		{[]int{3}, []int{0}, false},
		{[]int{-1}, []int{0}, false},
		{[]int{0, 3}, []int{0, 0}, false},
	} {
		if got := impl.ValuesOk(s, m, c.vars, c.values); got != c.ok || valuesByHand(s, m, c.vars, c.values) != c.ok {
			t.Fatal(c, got)
		}
	}
}
