package tests

import (
	"math"
	"math/rand"
	"slices"
	"testing"

	"loop.example/theorymodules/impl"
)

// checkSame compares what is the same if two values are with what the document tells, and returns it.
func checkSame(t *testing.T, s impl.Sig, m impl.Model, sort, x, y int) [][]int {
	t.Helper()
	classes := impl.SameMade(s, m, sort, x, y)
	wantRows(t, classes, sameByHand(s, m, sort, x, y), s, m, sort, x, y)
	return classes
}

// leadsClassesToOne reports whether rows lead values of one class to one value.
func leadsClassesToOne(h, classes [][]int) bool {
	for sort, row := range classes {
		for value, least := range row {
			if h[sort][value] != h[sort][least] {
				return false
			}
		}
	}
	return true
}

func TestP20NoLessIsTheSame(t *testing.T) {
	r := rand.New(rand.NewSource(90))
	seen := map[bool]int{}
	for _, c := range settings() {
		for _, m := range manyModels(r, c.s, 6) {
			selves := impl.HomsOf(c.s, m, m)
			for range 4 {
				sort := r.Intn(c.s.Sorts)
				x, y := r.Intn(m.Sizes[sort]), r.Intn(m.Sizes[sort])
				classes := checkSame(t, c.s, m, sort, x, y)
				if classes[sort][x] != classes[sort][y] {
					t.Fatal("not of one class", c, m, sort, x, y, classes)
				}
				if _, _, ok := impl.QuotientOf(c.s, m, classes); !ok {
					t.Fatal("no quotient", c, m, sort, x, y, classes)
				}
				// It is the same whichever of the two is named first.
				wantRows(t, impl.SameMade(c.s, m, sort, y, x), classes, c, m, sort, x, y)
				for _, h := range selves {
					if h[sort][x] == h[sort][y] && !leadsClassesToOne(h, classes) {
						t.Fatal("more is the same", c, m, sort, x, y, classes, h)
					}
					seen[x != y && h[sort][x] == h[sort][y]]++
				}
			}
		}
	}
	if seen[true] < 1000 || seen[false] < 1000 {
		t.Fatal(seen)
	}
}

// A value and itself are the same without anything else; and maps to other models, too, lead values of one class to one value if they lead the two to one.
func TestNothingIsTheSame(t *testing.T) {
	r := rand.New(rand.NewSource(91))
	many := 0
	for _, c := range settings() {
		for _, x := range someLeadings(r, c.s, 4) {
			for sort, size := range x.a.Sizes {
				for value := range size {
					wantRows(t, impl.SameMade(x.s, x.a, sort, value, value), selfRows(x.a), x, sort, value)
					other := r.Intn(size)
					if x.h[sort][value] != x.h[sort][other] || value == other {
						continue
					}
					many++
					if classes := impl.SameMade(x.s, x.a, sort, value, other); !leadsClassesToOne(x.h, classes) {
						t.Fatal(x, sort, value, other, classes)
					}
				}
			}
		}
	}
	if many < 200 {
		t.Fatal(many)
	}
}

func TestSame(t *testing.T) {
	for _, c := range []struct {
		s          string
		m          impl.Model
		sort, x, y int
		want       [][]int
	}{
		{"1:000,0,00", knownModels()[1], 0, 0, 1, [][]int{{0, 0, 0}}},
		{"1:000,0,00", knownModels()[1], 0, 2, 1, [][]int{{0, 0, 0}}},
		{"1:000,0,00", knownModels()[1], 0, 2, 2, [][]int{{0, 1, 2}}},
		// What operations leave of both, once and twice.
		{"1:00", modelOf([]int{3}, []int{1, 2, 2}), 0, 0, 1, [][]int{{0, 0, 0}}},
		{"1:00", modelOf([]int{3}, []int{1, 2, 2}), 0, 1, 2, [][]int{{0, 1, 1}}},
		{"1:00", modelOf([]int{3}, []int{1, 2, 2}), 0, 2, 0, [][]int{{0, 0, 0}}},
		{"1:00", modelOf([]int{3}, []int{0, 0, 1}), 0, 1, 2, [][]int{{0, 0, 0}}},
		{"1:00", modelOf([]int{3}, []int{0, 0, 1}), 0, 0, 1, [][]int{{0, 0, 2}}},
		{"1:00", modelOf([]int{3}, []int{0, 1, 2}), 0, 0, 2, [][]int{{0, 1, 0}}},
		{"1:00", modelOf([]int{3}, []int{0, 1, 2}), 0, 2, 0, [][]int{{0, 1, 0}}},
		{"1:00", modelOf([]int{3}, []int{2, 2, 0}), 0, 0, 1, [][]int{{0, 0, 2}}},
		// Without operations, and with constants, just the two are the same.
		{"1:", modelOf([]int{3}), 0, 1, 2, [][]int{{0, 1, 1}}},
		{"2:", modelOf([]int{3, 2}), 0, 2, 0, [][]int{{0, 1, 0}, {0, 1}}},
		{"2:", modelOf([]int{3, 2}), 1, 1, 0, [][]int{{0, 1, 2}, {0, 0}}},
		{"1:0,0", modelOf([]int{3}, []int{0}, []int{2}), 0, 0, 1, [][]int{{0, 0, 2}}},
		{"3:", modelOf([]int{1, 1, 2}), 2, 0, 1, [][]int{{0}, {0}, {0, 0}}},
		{"3:", modelOf([]int{1, 1, 2}), 1, 0, 0, [][]int{{0}, {0}, {0, 1}}},
		// In another sort, and back from there.
		{"2:01", modelOf([]int{2, 3}, []int{2, 1}), 0, 0, 1, [][]int{{0, 0}, {0, 1, 1}}},
		{"2:01", modelOf([]int{2, 3}, []int{2, 1}), 1, 2, 1, [][]int{{0, 1}, {0, 1, 1}}},
		{"2:01", modelOf([]int{2, 3}, []int{2, 2}), 0, 0, 1, [][]int{{0, 0}, {0, 1, 2}}},
		{"2:01,10", modelOf([]int{3, 3}, []int{0, 1, 1}, []int{0, 2, 1}), 0, 0, 1, [][]int{{0, 0, 0}, {0, 0, 2}}},
		{"2:01,10", modelOf([]int{3, 3}, []int{0, 1, 1}, []int{1, 2, 1}), 1, 0, 1, [][]int{{0, 1, 1}, {0, 0, 2}}},
		{"2:01,10", modelOf([]int{3, 3}, []int{0, 1, 0}, []int{0, 1, 2}), 1, 0, 2, [][]int{{0, 1, 0}, {0, 1, 0}}},
		{"2:01,10", modelOf([]int{3, 3}, []int{0, 1, 1}, []int{0, 1, 2}), 1, 0, 2, [][]int{{0, 0, 0}, {0, 0, 0}}},
		{"3:01,12,20", modelOf([]int{2, 2, 2}, []int{0, 1}, []int{0, 1}, []int{0, 1}), 1, 0, 1, [][]int{{0, 0}, {0, 0}, {0, 0}}},
		{"3:01,12,20", modelOf([]int{3, 2, 2}, []int{0, 0, 1}, []int{0, 1}, []int{1, 2}), 2, 0, 1, [][]int{{0, 1, 1}, {0, 0}, {0, 0}}},
		{"3:01,12,20", modelOf([]int{3, 2, 2}, []int{0, 1, 1}, []int{0, 1}, []int{1, 2}), 2, 0, 1, [][]int{{0, 1, 1}, {0, 1}, {0, 0}}},
		// All values of all sorts, one after the other.
		{"3:00,01,12", modelOf([]int{3, 3, 3}, []int{1, 2, 2}, []int{0, 1, 2}, []int{0, 1, 2}), 0, 0, 1, [][]int{{0, 0, 0}, {0, 0, 0}, {0, 0, 0}}},
		{"3:12,01,00", modelOf([]int{3, 3, 3}, []int{0, 1, 2}, []int{0, 1, 2}, []int{1, 2, 2}), 0, 0, 1, [][]int{{0, 0, 0}, {0, 0, 0}, {0, 0, 0}}},
		// Of two values, of which one is the same at its place, or both are.
		{"1:000", modelOf([]int{3}, []int{0, 0, 0, 0, 0, 2, 0, 0, 0}), 0, 1, 2, [][]int{{0, 0, 0}}},
		{"1:000", modelOf([]int{3}, []int{0, 0, 0, 1, 1, 1, 2, 2, 2}), 0, 1, 2, [][]int{{0, 1, 1}}},
		{"1:000", modelOf([]int{3}, []int{0, 1, 2, 0, 1, 2, 0, 1, 2}), 0, 0, 1, [][]int{{0, 0, 2}}},
		{"1:000", modelOf([]int{3}, []int{0, 2, 0, 2, 1, 1, 0, 1, 2}), 0, 0, 1, [][]int{{0, 0, 0}}},
		{"1:000", modelOf([]int{3}, []int{1, 0, 0, 0, 1, 1, 2, 2, 2}), 0, 0, 1, [][]int{{0, 0, 2}}},
		{"2:010", modelOf([]int{3, 2}, []int{0, 1, 1, 1, 2, 2}), 1, 0, 1, [][]int{{0, 0, 2}, {0, 0}}},
		{"2:010", modelOf([]int{3, 2}, []int{0, 0, 1, 1, 2, 1}), 1, 0, 1, [][]int{{0, 1, 1}, {0, 0}}},
		{"2:010", modelOf([]int{3, 2}, []int{0, 1, 1, 1, 2, 2}), 0, 0, 1, [][]int{{0, 0, 2}, {0, 1}}},
		{"2:010", modelOf([]int{3, 2}, []int{0, 1, 1, 1, 2, 2}), 0, 1, 2, [][]int{{0, 1, 1}, {0, 1}}},
		{"2:010", modelOf([]int{3, 2}, []int{0, 1, 1, 2, 2, 2}), 0, 0, 1, [][]int{{0, 0, 0}, {0, 1}}},
		{"2:011", modelOf([]int{2, 3}, []int{0, 1, 2, 2, 1, 2}), 0, 1, 0, [][]int{{0, 0}, {0, 1, 0}}},
		{"3:012", modelOf([]int{2, 1, 2}, []int{0, 1}), 0, 0, 1, [][]int{{0, 0}, {0}, {0, 0}}},
		{"3:012", modelOf([]int{1, 2, 3}, []int{2, 1}), 1, 0, 1, [][]int{{0}, {0, 0}, {0, 1, 1}}},
		// A sort or a value below 0, and one past the last one.
		{"2:01", modelOf([]int{2, 3}, []int{2, 1}), -1, 0, 0, nil},
		{"2:01", modelOf([]int{2, 3}, []int{2, 1}), 2, 0, 0, nil},
		{"2:01", modelOf([]int{2, 3}, []int{2, 1}), 0, 2, 0, nil},
		{"2:01", modelOf([]int{2, 3}, []int{2, 1}), 0, 0, 2, nil},
		{"2:01", modelOf([]int{2, 3}, []int{2, 1}), 0, 2, 2, nil},
		{"2:01", modelOf([]int{2, 3}, []int{2, 1}), 1, 2, 2, [][]int{{0, 1}, {0, 1, 2}}},
		{"2:01", modelOf([]int{2, 3}, []int{2, 1}), 1, 3, 0, nil},
		{"2:01", modelOf([]int{2, 3}, []int{2, 1}), 1, -1, 0, nil},
		{"2:01", modelOf([]int{2, 3}, []int{2, 1}), 1, 0, -1, nil},
		{"2:01", modelOf([]int{2, 3}, []int{2, 1}), 1, -1, -1, nil},
	} {
		wantRows(t, impl.SameMade(sigOf(c.s), c.m, c.sort, c.x, c.y), c.want, c)
		checkSame(t, sigOf(c.s), c.m, c.sort, c.x, c.y)
	}
}

// All sorts and values are tried, also those that there are not.
func TestAllValuesAreMadeTheSame(t *testing.T) {
	r := rand.New(rand.NewSource(92))
	numbers := []int{-1, 0, 1, 2, 3, 4, math.MaxInt, math.MinInt}
	for _, c := range settings() {
		for _, m := range manyModels(r, c.s, 1) {
			for _, sort := range numbers {
				for _, x := range numbers {
					for _, y := range numbers {
						checkSame(t, c.s, m, sort, x, y)
					}
				}
			}
		}
	}
}

// checkQuotient compares the model of classes with what the document tells, and returns it.
func checkQuotient(t *testing.T, s impl.Sig, m impl.Model, classes [][]int) (impl.Model, [][]int, bool) {
	t.Helper()
	want, wantH, wantOk := quotientByHand(s, m, classes)
	quotient, h, ok := impl.QuotientOf(s, m, classes)
	wantModel(t, quotient, ok, want, wantOk, s, m, classes)
	wantRows(t, h, wantH, s, m, classes)
	return quotient, h, ok
}

func TestP21QuotientsHoldWhatTheModelHolds(t *testing.T) {
	r := rand.New(rand.NewSource(93))
	seen := map[[2]bool]int{}
	for _, c := range settings() {
		for _, m := range manyModels(r, c.s, 14) {
			list := allClasses(m)
			for range 5 {
				sort := r.Intn(c.s.Sorts)
				classes := list[r.Intn(len(list))]
				if r.Intn(2) == 0 {
					classes = impl.SameMade(c.s, m, sort, r.Intn(m.Sizes[sort]), r.Intn(m.Sizes[sort]))
				}
				quotient, h, ok := checkQuotient(t, c.s, m, classes)
				if !ok {
					continue
				}
				if !impl.HomOk(c.s, m, quotient, h) {
					t.Fatal("no map", c, m, classes, quotient, h)
				}
				wantRows(t, impl.KernelOf(c.s, m, quotient, h), classes, "led to one", c, m, quotient, h)
				wantSets(t, impl.ImageOf(c.s, m, quotient, h), fullSets(quotient), "led to all", c, m, quotient, h)
				if sameRow(m.Sizes, quotient.Sizes) {
					continue
				}
				checkKept(t, r, c, m, quotient, seen)
			}
		}
	}
	wantSeen(t, seen, 3, 100)
}

// In a quotient all is the same, or nothing is: there are always both, and the latter is the model.
func TestLeastAndGreatestQuotients(t *testing.T) {
	r := rand.New(rand.NewSource(94))
	for _, s := range validSigs() {
		for _, m := range manyModels(r, s, 3) {
			quotient, h, ok := impl.QuotientOf(s, m, zeroRows(m))
			wantModel(t, quotient, ok, oneValue(s), true, "all is the same", s, m)
			wantRows(t, h, zeroRows(m), s, m)
			quotient, h, ok = impl.QuotientOf(s, m, selfRows(m))
			wantModel(t, quotient, ok, m, true, "nothing is the same", s, m)
			wantRows(t, h, selfRows(m), s, m)
		}
	}
}

// All ways to put values into classes are tried: just those have a quotient with which operations go along.
func TestAllClassesAreTried(t *testing.T) {
	r := rand.New(rand.NewSource(95))
	seen := map[bool]int{}
	for _, c := range settings() {
		for _, m := range manyModels(r, c.s, 8) {
			for _, classes := range allClasses(m) {
				_, _, ok := checkQuotient(t, c.s, m, classes)
				seen[ok]++
			}
		}
	}
	if seen[true] < 500 || seen[false] < 500 {
		t.Fatal(seen)
	}
}

// Of all rows of numbers just those tell classes of which each value has the least one.
func TestAllRowsOfClassesAreTried(t *testing.T) {
	for size, want := range map[int]int{1: 1, 2: 2, 3: 5} {
		for _, text := range []string{"1:", "2:", "3:"} {
			s := sigOf(text)
			m := zeroModel(s, []int{1, 1, 1}[:s.Sorts])
			m.Sizes[s.Sorts-1] = size
			many := 0
			numberRows([]int{-1, 0, 1, 2, 3}, 4, nil, func(row []int) {
				if _, _, ok := checkQuotient(t, s, m, withRow(zeroRows(m), s.Sorts-1, row)); ok {
					many++
				}
			})
			if many != want {
				t.Fatal(text, m, many)
			}
		}
	}
}

func TestQuotients(t *testing.T) {
	line := modelOf([]int{3}, []int{1, 2, 2})
	none := impl.Model{}
	for _, c := range []struct {
		s       string
		m       impl.Model
		classes [][]int
		want    impl.Model
		h       [][]int
	}{
		{"1:00", line, [][]int{{0, 1, 1}}, modelOf([]int{2}, []int{1, 1}), [][]int{{0, 1, 1}}},
		{"1:00", line, [][]int{{0, 0, 0}}, modelOf([]int{1}, []int{0}), [][]int{{0, 0, 0}}},
		{"1:00", line, [][]int{{0, 1, 2}}, line, [][]int{{0, 1, 2}}},
		// Classes that do not go along with the operation.
		{"1:00", line, [][]int{{0, 0, 2}}, none, nil},
		{"1:00", line, [][]int{{0, 1, 0}}, none, nil},
		{"1:000", modelOf([]int{3}, []int{0, 0, 0, 0, 0, 2, 0, 0, 0}), [][]int{{0, 1, 1}}, none, nil},
		{"1:000", modelOf([]int{3}, []int{0, 0, 0, 0, 0, 0, 0, 2, 0}), [][]int{{0, 1, 1}}, none, nil},
		{"1:000", modelOf([]int{3}, []int{0, 0, 0, 0, 0, 0, 0, 0, 2}), [][]int{{0, 1, 1}}, none, nil},
		{"1:000", modelOf([]int{3}, []int{0, 0, 0, 0, 2, 0, 0, 0, 0}), [][]int{{0, 1, 1}}, none, nil},
		{"1:000", modelOf([]int{3}, []int{0, 0, 0, 0, 2, 1, 0, 1, 2}), [][]int{{0, 1, 1}}, modelOf([]int{2}, []int{0, 0, 0, 1}), [][]int{{0, 1, 1}}},
		// Classes that are not told by their least values.
		{"1:00", line, [][]int{{0, 2, 2}}, none, nil},
		{"1:00", line, [][]int{{1, 1, 1}}, none, nil},
		{"1:00", line, [][]int{{2, 2, 2}}, none, nil},
		{"1:00", line, [][]int{{0, 0, 1}}, none, nil},
		{"1:00", line, [][]int{{1, 0, 2}}, none, nil},
		{"1:", modelOf([]int{3}), [][]int{{2, 1, 2}}, none, nil},
		{"1:", modelOf([]int{3}), [][]int{{0, 0, 1}}, none, nil},
		{"1:", modelOf([]int{3}), [][]int{{0, 2, 1}}, none, nil},
		{"1:", modelOf([]int{3}), [][]int{{0, 1, 3}}, none, nil},
		{"1:", modelOf([]int{3}), [][]int{{-1, 1, 2}}, none, nil},
		{"1:", modelOf([]int{2}), [][]int{{1, 1}}, none, nil},
		// Too few and too many rows, and rows that are too short or too long.
		{"1:00", line, nil, none, nil},
		{"1:00", line, [][]int{}, none, nil},
		{"1:00", line, [][]int{{}}, none, nil},
		{"1:00", line, [][]int{{0, 0}}, none, nil},
		{"1:00", line, [][]int{{0, 0, 0, 0}}, none, nil},
		{"1:00", line, [][]int{{0, 0, 0}, {0}}, none, nil},
		{"1:00", line, [][]int{{0, 0, 0}, {}}, none, nil},
		{"2:", modelOf([]int{2, 1}), [][]int{{0, 1}}, none, nil},
		{"2:", modelOf([]int{2, 1}), [][]int{{0}, {0, 1}}, none, nil},
		// The classes are in the order of their least values.
		{"1:00", modelOf([]int{3}, []int{1, 0, 1}), [][]int{{0, 1, 0}}, modelOf([]int{2}, []int{1, 0}), [][]int{{0, 1, 0}}},
		{"1:00", modelOf([]int{3}, []int{2, 2, 0}), [][]int{{0, 0, 2}}, modelOf([]int{2}, []int{1, 0}), [][]int{{0, 0, 1}}},
		{"1:0,0,0", modelOf([]int{3}, []int{2}, []int{1}, []int{0}), [][]int{{0, 0, 2}}, modelOf([]int{2}, []int{1}, []int{0}, []int{0}), [][]int{{0, 0, 1}}},
		{"1:0,0,0", modelOf([]int{3}, []int{2}, []int{1}, []int{0}), [][]int{{0, 1, 0}}, modelOf([]int{2}, []int{0}, []int{1}, []int{0}), [][]int{{0, 1, 0}}},
		// More sorts: the classes of one that is left, of one that is taken, and of both.
		{"2:01", modelOf([]int{2, 3}, []int{2, 1}), [][]int{{0, 0}, {0, 1, 1}}, modelOf([]int{1, 2}, []int{1}), [][]int{{0, 0}, {0, 1, 1}}},
		{"2:01", modelOf([]int{2, 3}, []int{2, 1}), [][]int{{0, 0}, {0, 1, 0}}, none, nil},
		{"2:01", modelOf([]int{2, 3}, []int{2, 1}), [][]int{{0, 0}, {0, 1, 2}}, none, nil},
		{"2:01", modelOf([]int{2, 3}, []int{2, 1}), [][]int{{0, 1}, {0, 1, 0}}, modelOf([]int{2, 2}, []int{0, 1}), [][]int{{0, 1}, {0, 1, 0}}},
		{"2:01", modelOf([]int{2, 3}, []int{2, 1}), [][]int{{0, 1}, {0, 0, 2}}, modelOf([]int{2, 2}, []int{1, 0}), [][]int{{0, 1}, {0, 0, 1}}},
		{"2:010", modelOf([]int{3, 2}, []int{0, 1, 1, 1, 2, 2}), [][]int{{0, 1, 1}, {0, 1}}, modelOf([]int{2, 2}, []int{0, 1, 1, 1}), [][]int{{0, 1, 1}, {0, 1}}},
		{"2:010", modelOf([]int{3, 2}, []int{0, 1, 1, 1, 2, 2}), [][]int{{0, 0, 2}, {0, 0}}, modelOf([]int{2, 1}, []int{0, 1}), [][]int{{0, 0, 1}, {0, 0}}},
		{"2:010", modelOf([]int{3, 2}, []int{0, 1, 1, 1, 2, 2}), [][]int{{0, 1, 1}, {0, 0}}, none, nil},
		{"2:010", modelOf([]int{3, 2}, []int{0, 1, 1, 1, 2, 2}), [][]int{{0, 1, 0}, {0, 1}}, none, nil},
		{"2:101", modelOf([]int{3, 3}, []int{0, 1, 1, 1, 2, 2, 2, 1, 1}), [][]int{{0, 1, 1}, {0, 1, 1}}, modelOf([]int{2, 2}, []int{0, 1, 1, 1}), [][]int{{0, 1, 1}, {0, 1, 1}}},
		{"3:", modelOf([]int{1, 2, 3}), [][]int{{0}, {0, 0}, {0, 1, 0}}, modelOf([]int{1, 1, 2}), [][]int{{0}, {0, 0}, {0, 1, 0}}},
	} {
		quotient, h, ok := impl.QuotientOf(sigOf(c.s), c.m, c.classes)
		wantModel(t, quotient, ok, c.want, c.h != nil, c)
		wantRows(t, h, c.h, c)
		checkQuotient(t, sigOf(c.s), c.m, c.classes)
	}
}

// A quotient of a quotient is a quotient of the model.
func TestQuotientsOfQuotients(t *testing.T) {
	r := rand.New(rand.NewSource(96))
	many := 0
	for _, c := range settings() {
		for _, m := range manyModels(r, c.s, 25) {
			list := allClasses(m)
			first, h, ok := impl.QuotientOf(c.s, m, list[r.Intn(len(list))])
			if !ok {
				continue
			}
			list = allClasses(first)
			second, k, ok := impl.QuotientOf(c.s, first, list[r.Intn(len(list))])
			if !ok {
				continue
			}
			var both, classes [][]int
			for sort, row := range h {
				led := withRows(k, slices.Repeat([]int{sort}, len(row)), row)
				var least []int
				for _, to := range led {
					least = append(least, slices.Index(led, to))
				}
				both, classes = append(both, led), append(classes, least)
			}
			once, led, ok := impl.QuotientOf(c.s, m, classes)
			wantModel(t, once, ok, second, true, c, m, h, k)
			wantRows(t, led, both, c, m, h, k)
			if !sameModel(first, m) && !sameModel(first, second) {
				many++
			}
		}
	}
	if many < 50 {
		t.Fatal(many)
	}
}

// Of what is no model, and over what is no signature, nothing is made the same, and there is no quotient.
func TestNoQuotients(t *testing.T) {
	none := func(s impl.Sig, m impl.Model, classes [][]int) {
		t.Helper()
		for sort := range max(1, min(s.Sorts, 3)) {
			wantRows(t, impl.SameMade(s, m, sort, 0, 0), nil, s, m)
		}
		quotient, h, ok := impl.QuotientOf(s, m, classes)
		wantModel(t, quotient, ok, impl.Model{}, false, s, m, classes)
		wantRows(t, h, nil, s, m, classes)
	}
	for _, s := range []impl.Sig{sigOf("1:"), sigOf("1:000,0,00"), sigOf("2:010,01,1,0"), sigOf("3:012,2"), sigOf("3:")} {
		for _, m := range []impl.Model{oneValue(s), zeroModel(s, []int{2, 3, 1}[:s.Sorts])} {
			for _, bad := range badModels(s, m) {
				none(s, bad, selfRows(m))
				none(s, bad, zeroRows(m))
			}
			for _, classes := range [][][]int{selfRows(m), zeroRows(m)} {
				for _, wrong := range wrongRows(classes, m.Sizes) {
					quotient, h, ok := impl.QuotientOf(s, m, wrong)
					wantModel(t, quotient, ok, impl.Model{}, false, s, m, wrong)
					wantRows(t, h, nil, s, m, wrong)
				}
			}
			none(s, oneValue(sigOf("2:0,1,00,11,01")), selfRows(m))
		}
	}
	for _, bad := range invalidSigs() {
		one := oneValue(bad)
		none(bad, one, zeroRows(one))
		none(bad, impl.Model{}, nil)
		none(bad, oneValue(sigOf("1:")), [][]int{{0}})
	}
}
