package tests

import (
	"math/rand"
	"slices"
	"testing"

	"loop.example/theorymodules/impl"
)

func TestP69ToLeaveAllValuesIsAMap(t *testing.T) {
	r := rand.New(rand.NewSource(81))
	for _, s := range validSigs() {
		one := oneValue(s)
		for _, m := range manyModels(r, s, 4) {
			if !impl.HomOk(s, m, m, selfRows(m)) {
				t.Fatal("to itself", s, m)
			}
			if !impl.HomOk(s, m, one, zeroRows(m)) {
				t.Fatal("to one value", s, m)
			}
			list := impl.HomsOf(s, m, one)
			if len(list) != 1 || !sameRows(list[0], zeroRows(m)) {
				t.Fatal("just one to one value", s, m, list)
			}
			for _, wrong := range wrongRows(selfRows(m), m.Sizes) {
				if impl.HomOk(s, m, m, wrong) {
					t.Fatal("to itself", s, m, wrong)
				}
			}
			for _, wrong := range wrongRows(zeroRows(m), one.Sizes) {
				if impl.HomOk(s, m, one, wrong) {
					t.Fatal("to one value", s, m, wrong)
				}
			}
		}
	}
}

// Maps are followed by maps; and of all rows that lead values to values just those are maps with which operations go along.
func TestMapsOfModels(t *testing.T) {
	r := rand.New(rand.NewSource(82))
	seen := map[bool]int{}
	for _, c := range settings() {
		for _, x := range someLeadings(r, c.s, 5) {
			if !impl.HomOk(x.s, x.a, x.b, x.h) {
				t.Fatal("refused", x)
			}
			for _, y := range leadingsOf(r, c.s, x.b) {
				if !sameModel(y.a, x.b) {
					continue
				}
				var then [][]int
				for sort, row := range x.h {
					then = append(then, withRows(y.h, slices.Repeat([]int{sort}, len(row)), row))
				}
				if !impl.HomOk(x.s, x.a, y.b, then) {
					t.Fatal("one behind the other", x, y, then)
				}
			}
			for range 8 {
				sort := r.Intn(c.s.Sorts)
				row := slices.Clone(x.h[sort])
				row[r.Intn(len(row))] = r.Intn(x.b.Sizes[sort])
				h := withRow(x.h, sort, row)
				ok := impl.HomOk(x.s, x.a, x.b, h)
				if ok != homByHand(x.s, x.a, x.b, h) {
					t.Fatal(x, h, ok)
				}
				seen[ok]++
			}
		}
	}
	if seen[true] < 1000 || seen[false] < 1000 {
		t.Fatal(seen)
	}
}

// homCase is a map of models, or what is none.
type homCase struct {
	s    string
	a, b impl.Model
	h    [][]int
	ok   bool
}

// checkHomCases compares which rows are maps.
func checkHomCases(t *testing.T, list []homCase) {
	t.Helper()
	for _, c := range list {
		s := sigOf(c.s)
		if got := impl.HomOk(s, c.a, c.b, c.h); got != c.ok || homByHand(s, c.a, c.b, c.h) != c.ok {
			t.Fatal(c, got)
		}
	}
}

func TestMapsOfKnownModels(t *testing.T) {
	two, three := knownModels()[0], knownModels()[1]
	unit := knownModels()[2]
	checkHomCases(t, []homCase{
		{"1:000,0,00", three, three, [][]int{{0, 1, 2}}, true},
		{"1:000,0,00", three, three, [][]int{{0, 2, 1}}, true},
		{"1:000,0,00", three, three, [][]int{{0, 0, 0}}, true},
		{"1:000,0,00", three, three, [][]int{{1, 2, 0}}, false},
		{"1:000,0,00", three, three, [][]int{{1, 1, 1}}, false},
		{"1:000,0,00", three, three, [][]int{{0, 0, 1}}, false},
		{"1:000,0,00", two, three, [][]int{{0, 0}}, true},
		{"1:000,0,00", two, three, [][]int{{0, 1}}, false},
		{"1:000,0,00", three, two, [][]int{{0, 0, 0}}, true},
		{"1:000,0,00", three, two, [][]int{{0, 1, 0}}, false},
		// The unit is led to the unit.
		{"1:000,0,00", two, unit, [][]int{{1, 0}}, true},
		{"1:000,0,00", two, unit, [][]int{{0, 1}}, false},
		{"1:000,0,00", three, unit, [][]int{{1, 1, 1}}, true},
		{"1:000,0,00", three, unit, [][]int{{0, 0, 0}}, false},
		{"1:000,0,00", unit, three, [][]int{{0, 0}}, true},
		// Too few and too many rows, rows that are too short or too long, and numbers that are no value.
		{"1:000,0,00", two, three, nil, false},
		{"1:000,0,00", two, three, [][]int{}, false},
		{"1:000,0,00", two, three, [][]int{{0, 0}, {0, 0}}, false},
		{"1:000,0,00", two, three, [][]int{{0, 0}, nil}, false},
		{"1:000,0,00", two, three, [][]int{{0}}, false},
		{"1:000,0,00", two, three, [][]int{{0, 0, 0}}, false},
		{"1:000,0,00", two, three, [][]int{{0, 3}}, false},
		{"1:000,0,00", two, three, [][]int{{0, -1}}, false},
		{"1:000,0,00", three, two, [][]int{{0, 2, 2}}, false},
		{"1:000,0,00", three, two, [][]int{{0, 0}}, false},
		// Without operations all rows of values are maps.
		{"1:", modelOf([]int{2}), modelOf([]int{3}), [][]int{{2, 0}}, true},
		{"1:", modelOf([]int{3}), modelOf([]int{2}), [][]int{{1, 0, 1}}, true},
		{"1:", modelOf([]int{3}), modelOf([]int{2}), [][]int{{2, 0, 1}}, false},
		{"2:", modelOf([]int{3, 1}), modelOf([]int{2, 3}), [][]int{{1, 0, 1}, {2}}, true},
		{"2:", modelOf([]int{3, 1}), modelOf([]int{2, 3}), [][]int{{2}, {1, 0, 1}}, false},
		{"2:", modelOf([]int{3, 1}), modelOf([]int{2, 3}), [][]int{{1, 0, 2}, {1}}, false},
		{"2:", modelOf([]int{3, 1}), modelOf([]int{2, 3}), [][]int{{1, 0, 1}}, false},
		{"2:", modelOf([]int{3, 1}), modelOf([]int{2, 3}), [][]int{{1, 0, 1}, {}}, false},
		{"3:", modelOf([]int{1, 1, 2}), modelOf([]int{1, 1, 1}), [][]int{{0}, {0}, {0, 0}}, true},
		{"3:", modelOf([]int{1, 1, 2}), modelOf([]int{1, 1, 1}), [][]int{{0}, {0}, {0, 1}}, false},
	})
}

func TestMapsOfModelsOfMoreSorts(t *testing.T) {
	checkHomCases(t, []homCase{
		// Constants go to the constants, each to its own.
		{"1:0", modelOf([]int{2}, []int{1}), modelOf([]int{3}, []int{2}), [][]int{{0, 2}}, true},
		{"1:0", modelOf([]int{2}, []int{1}), modelOf([]int{3}, []int{2}), [][]int{{2, 2}}, true},
		{"1:0", modelOf([]int{2}, []int{1}), modelOf([]int{3}, []int{2}), [][]int{{2, 0}}, false},
		{"1:0,0", modelOf([]int{2}, []int{1}, []int{0}), modelOf([]int{3}, []int{2}, []int{0}), [][]int{{0, 2}}, true},
		{"1:0,0", modelOf([]int{2}, []int{1}, []int{0}), modelOf([]int{3}, []int{2}, []int{0}), [][]int{{2, 2}}, false},
		{"1:0,0", modelOf([]int{2}, []int{1}, []int{1}), modelOf([]int{3}, []int{2}, []int{0}), [][]int{{0, 2}}, false},
		{"2:0,1", modelOf([]int{1, 2}, []int{0}, []int{1}), modelOf([]int{2, 2}, []int{1}, []int{0}), [][]int{{1}, {1, 0}}, true},
		{"2:0,1", modelOf([]int{1, 2}, []int{0}, []int{1}), modelOf([]int{2, 2}, []int{1}, []int{0}), [][]int{{0}, {1, 0}}, false},
		{"2:0,1", modelOf([]int{1, 2}, []int{0}, []int{1}), modelOf([]int{2, 2}, []int{1}, []int{0}), [][]int{{1}, {0, 1}}, false},
		// Operations from a sort to another one.
		{"2:01", modelOf([]int{3, 2}, []int{0, 1, 1}), modelOf([]int{2, 3}, []int{2, 0}), [][]int{{0, 1, 1}, {2, 0}}, true},
		{"2:01", modelOf([]int{3, 2}, []int{0, 1, 1}), modelOf([]int{2, 3}, []int{2, 0}), [][]int{{1, 0, 0}, {0, 2}}, true},
		{"2:01", modelOf([]int{3, 2}, []int{0, 1, 1}), modelOf([]int{2, 3}, []int{2, 0}), [][]int{{0, 1, 0}, {2, 0}}, false},
		{"2:01", modelOf([]int{3, 2}, []int{0, 1, 1}), modelOf([]int{2, 3}, []int{2, 0}), [][]int{{0, 1, 1}, {0, 2}}, false},
		{"2:10", modelOf([]int{3, 2}, []int{2, 0}), modelOf([]int{2, 2}, []int{1, 0}), [][]int{{1, 0, 0}, {1, 0}}, true},
		{"2:10", modelOf([]int{3, 2}, []int{2, 0}), modelOf([]int{2, 2}, []int{1, 0}), [][]int{{0, 1, 1}, {0, 1}}, true},
		{"2:10", modelOf([]int{3, 2}, []int{2, 0}), modelOf([]int{2, 2}, []int{1, 0}), [][]int{{0, 0, 1}, {0, 1}}, true},
		{"2:10", modelOf([]int{3, 2}, []int{2, 0}), modelOf([]int{2, 2}, []int{1, 0}), [][]int{{1, 0, 0}, {0, 1}}, false},
		{"2:10", modelOf([]int{3, 2}, []int{2, 0}), modelOf([]int{2, 2}, []int{1, 0}), [][]int{{1, 0, 0}, {1, 1}}, false},
		{"2:10", modelOf([]int{3, 2}, []int{2, 0}), modelOf([]int{2, 2}, []int{1, 0}), [][]int{{1, 1, 1}, {1, 0}}, false},
		// Operations of two sorts of different sizes, which become others: what is left is the first value, and then the second one.
		{"2:010", modelOf([]int{2, 3}, []int{0, 0, 0, 1, 1, 1}), modelOf([]int{3, 2}, []int{0, 0, 1, 1, 2, 2}), [][]int{{2, 0}, {1, 0, 1}}, true},
		{"2:010", modelOf([]int{2, 3}, []int{0, 0, 0, 1, 1, 1}), modelOf([]int{3, 2}, []int{0, 0, 1, 1, 2, 0}), [][]int{{2, 0}, {1, 0, 1}}, false},
		{"2:010", modelOf([]int{2, 3}, []int{0, 0, 0, 1, 1, 1}), modelOf([]int{3, 2}, []int{0, 0, 1, 1, 2, 0}), [][]int{{2, 0}, {0, 0, 0}}, true},
		{"2:010", modelOf([]int{2, 3}, []int{0, 0, 0, 1, 1, 1}), modelOf([]int{3, 2}, []int{0, 0, 1, 1, 2, 0}), [][]int{{1, 0}, {1, 0, 1}}, true},
		{"2:011", modelOf([]int{2, 3}, []int{0, 1, 2, 0, 1, 2}), modelOf([]int{1, 2}, []int{0, 1}), [][]int{{0, 0}, {1, 0, 1}}, true},
		{"2:011", modelOf([]int{2, 3}, []int{0, 1, 2, 0, 1, 2}), modelOf([]int{1, 2}, []int{1, 1}), [][]int{{0, 0}, {1, 0, 1}}, false},
		{"2:011", modelOf([]int{2, 3}, []int{0, 1, 2, 0, 1, 2}), modelOf([]int{1, 2}, []int{1, 1}), [][]int{{0, 0}, {1, 1, 1}}, true},
		{"3:012", modelOf([]int{2, 1, 3}, []int{2, 1}), modelOf([]int{1, 2, 2}, []int{1, 0}), [][]int{{0, 0}, {0}, {0, 1, 1}}, true},
		{"3:012", modelOf([]int{2, 1, 3}, []int{2, 1}), modelOf([]int{1, 2, 2}, []int{1, 0}), [][]int{{0, 0}, {1}, {1, 0, 0}}, true},
		{"3:012", modelOf([]int{2, 1, 3}, []int{2, 1}), modelOf([]int{1, 2, 2}, []int{1, 0}), [][]int{{0, 0}, {0}, {0, 1, 0}}, false},
		{"3:012", modelOf([]int{2, 1, 3}, []int{2, 1}), modelOf([]int{1, 2, 2}, []int{1, 0}), [][]int{{0, 0}, {1}, {0, 1, 1}}, false},
	})
}

// What is no model, on either side, and what is no signature have no maps, one by one or all.
func TestMapsOfWhatIsNoModel(t *testing.T) {
	none := func(s impl.Sig, a, b impl.Model, h [][]int) {
		t.Helper()
		if list := impl.HomsOf(s, a, b); impl.HomOk(s, a, b, h) || list != nil {
			t.Fatal(s, a, b, h, list)
		}
	}
	for _, s := range []impl.Sig{sigOf("1:"), sigOf("1:000,0,00"), sigOf("2:010,01,1,0"), sigOf("3:012,2"), sigOf("3:")} {
		one, two := oneValue(s), zeroModel(s, []int{2, 3, 1}[:s.Sorts])
		for _, m := range []impl.Model{one, two} {
			for _, bad := range badModels(s, m) {
				none(s, bad, one, zeroRows(m))
				none(s, bad, m, selfRows(m))
				none(s, m, bad, selfRows(m))
				none(s, one, bad, zeroRows(one))
				none(s, bad, bad, selfRows(m))
			}
		}
		// Models of another signature, on one side and on both.
		other := oneValue(sigOf("2:0,1,00,11,01"))
		none(s, one, other, zeroRows(one))
		none(s, other, one, zeroRows(other))
		none(s, other, other, zeroRows(other))
	}
	for _, bad := range invalidSigs() {
		one := oneValue(bad)
		none(bad, one, one, zeroRows(one))
		none(bad, impl.Model{}, impl.Model{}, nil)
		none(bad, oneValue(sigOf("1:")), oneValue(sigOf("1:")), [][]int{{0}})
	}
}

// checkHoms compares all maps of a model to another one with what the document tells, and returns them.
func checkHoms(t *testing.T, s impl.Sig, a, b impl.Model) [][][]int {
	t.Helper()
	got, want := impl.HomsOf(s, a, b), homsByHand(s, a, b)
	if len(got) != len(want) {
		t.Fatal("got", got, "wanted", want, "for", s, a, b)
	}
	for i := range got {
		wantRows(t, got[i], want[i], s, a, b)
	}
	return got
}

func TestP70AllMapsAreTold(t *testing.T) {
	r := rand.New(rand.NewSource(83))
	seen := map[bool]int{}
	for _, c := range settings() {
		for _, x := range someLeadings(r, c.s, 3) {
			list := checkHoms(t, x.s, x.a, x.b)
			for i, h := range list {
				if !impl.HomOk(x.s, x.a, x.b, h) {
					t.Fatal("none", x, h)
				}
				// In their order none stands twice.
				if i > 0 && slices.Compare(joined(list[i-1]...), joined(h...)) >= 0 {
					t.Fatal("order", x, list[i-1], h)
				}
				checkConstants(t, leading{x.s, x.a, x.b, h})
			}
			told := slices.ContainsFunc(list, func(h [][]int) bool { return sameRows(h, x.h) })
			many := slices.Max(x.a.Sizes) == 3 && x.s.Sorts == 3
			if !told && !many {
				t.Fatal("missing", x, list)
			}
			seen[told]++
		}
	}
	if seen[true] < 500 {
		t.Fatal(seen)
	}
}

// checkConstants looks whether a constant is led to the constant, and whether each term without letters is.
func checkConstants(t *testing.T, x leading) {
	t.Helper()
	for op := range x.s.Ops {
		if len(impl.OpTakes(x.s, op)) == 0 && x.h[impl.OpLeaves(x.s, op)][x.a.Tables[op][0]] != x.b.Tables[op][0] {
			t.Fatal("constant", x, op)
		}
	}
}

// Terms have the values to which their values are led; and what holds of terms without letters holds where a map leads.
func TestP70EquationsWithoutLettersAreKept(t *testing.T) {
	r := rand.New(rand.NewSource(84))
	seen := map[[2]bool]int{}
	for i, c := range settings() {
		closed := setting{c.s, nil}.pool(int64(i+4700), 25)
		open := c.pool(int64(i+4800), 25)
		for _, x := range someLeadings(r, c.s, 3) {
			for _, u := range closed {
				sort := impl.TermSort(c.s, nil, u)
				value, led := impl.ValueOf(c.s, x.a, nil, u, nil), impl.ValueOf(c.s, x.b, nil, u, nil)
				if x.h[sort][value] != led {
					t.Fatal("term", x, u, value, led)
				}
				e := impl.Eq{Left: u, Right: closed[r.Intn(len(closed))]}
				here, there := impl.Holds(c.s, x.a, e), impl.Holds(c.s, x.b, e)
				if here && !there {
					t.Fatal("not kept", x, e)
				}
				if impl.EqOk(c.s, e) {
					seen[[2]bool{here, there}]++
				}
			}
			for _, u := range open {
				rows := allRows(sizesByHand(x.a, c.vars))
				values := rows[r.Intn(len(rows))]
				value, led := impl.ValueOf(c.s, x.a, c.vars, u, values), impl.ValueOf(c.s, x.b, c.vars, u, withRows(x.h, c.vars, values))
				if x.h[impl.TermSort(c.s, c.vars, u)][value] != led {
					t.Fatal("term with letters", x, u, values, value, led)
				}
			}
		}
	}
	wantSeen(t, seen, 3, 100)
}

func TestAllMapsOfKnownModels(t *testing.T) {
	two, three, unit, lesser := knownModels()[0], knownModels()[1], knownModels()[2], knownModels()[3]
	for _, c := range []struct {
		s    string
		a, b impl.Model
		want [][][]int
	}{
		{"1:000,0,00", three, three, [][][]int{{{0, 0, 0}}, {{0, 1, 2}}, {{0, 2, 1}}}},
		{"1:000,0,00", two, two, [][][]int{{{0, 0}}, {{0, 1}}}},
		{"1:000,0,00", two, three, [][][]int{{{0, 0}}}},
		{"1:000,0,00", two, unit, [][][]int{{{1, 0}}, {{1, 1}}}},
		// There is none: f2 leaves 0 of 0, which is led to 2, and another value of 2.
		{"1:000,0,00", three, lesser, nil},
		{"1:00", modelOf([]int{1}, []int{0}), modelOf([]int{3}, []int{1, 2, 0}), nil},
		{"1:00", modelOf([]int{2}, []int{1, 0}), modelOf([]int{3}, []int{1, 0, 2}), [][][]int{{{0, 1}}, {{1, 0}}, {{2, 2}}}},
		{"1:0,0", modelOf([]int{2}, []int{0}, []int{0}), modelOf([]int{2}, []int{0}, []int{1}), nil},
		{"1:0,0", modelOf([]int{3}, []int{0}, []int{2}), modelOf([]int{2}, []int{1}, []int{0}), [][][]int{{{1, 0, 0}}, {{1, 1, 0}}}},
		// Without operations, and in the order of the rows one behind the other.
		{"1:", modelOf([]int{1}), modelOf([]int{1}), [][][]int{{{0}}}},
		{"1:", modelOf([]int{1}), modelOf([]int{3}), [][][]int{{{0}}, {{1}}, {{2}}}},
		{"1:", modelOf([]int{2}), modelOf([]int{2}), [][][]int{{{0, 0}}, {{0, 1}}, {{1, 0}}, {{1, 1}}}},
		{"2:", modelOf([]int{2, 1}), modelOf([]int{2, 1}), [][][]int{{{0, 0}, {0}}, {{0, 1}, {0}}, {{1, 0}, {0}}, {{1, 1}, {0}}}},
		{"2:", modelOf([]int{1, 2}), modelOf([]int{2, 2}), [][][]int{{{0}, {0, 0}}, {{0}, {0, 1}}, {{0}, {1, 0}}, {{0}, {1, 1}}, {{1}, {0, 0}}, {{1}, {0, 1}}, {{1}, {1, 0}}, {{1}, {1, 1}}}},
		{"2:01", modelOf([]int{2, 2}, []int{1, 0}), modelOf([]int{1, 3}, []int{2}), [][][]int{{{0, 0}, {2, 2}}}},
		{"2:10", modelOf([]int{2, 1}, []int{1}), modelOf([]int{2, 2}, []int{1, 0}), [][][]int{{{0, 0}, {1}}, {{0, 1}, {0}}, {{1, 0}, {1}}, {{1, 1}, {0}}}},
		{"3:", modelOf([]int{1, 1, 1}), modelOf([]int{1, 2, 2}), [][][]int{{{0}, {0}, {0}}, {{0}, {0}, {1}}, {{0}, {1}, {0}}, {{0}, {1}, {1}}}},
	} {
		got := checkHoms(t, sigOf(c.s), c.a, c.b)
		if len(got) != len(c.want) {
			t.Fatal(c, got)
		}
		for i := range got {
			wantRows(t, got[i], c.want[i], c)
		}
	}
}

// Models have maps up to 2916 ways to choose values; the next number of ways that there can be is 5832, and then there are none, also if just one of them were a map.
func TestTooManyWaysToChooseValues(t *testing.T) {
	quiet := sigOf("3:")
	seen := map[int]bool{}
	for _, from := range allRows([]int{3, 3, 3}) {
		for _, to := range allRows([]int{3, 3, 3}) {
			ways := 1
			a, b := modelOf(make([]int, 3)), modelOf(make([]int, 3))
			for sort := range 3 {
				a.Sizes[sort], b.Sizes[sort] = 1+from[sort], 1+to[sort]
				for range a.Sizes[sort] {
					ways *= b.Sizes[sort]
				}
			}
			want := ways
			if ways > 3000 {
				want = 0
			}
			if list := impl.HomsOf(quiet, a, b); len(list) != want || want == 0 && list != nil {
				t.Fatal(a, b, ways, len(list))
			}
			seen[ways] = true
		}
	}
	if !seen[2916] || !seen[5832] || !seen[19683] {
		t.Fatal(seen)
	}
	for ways := range seen {
		if ways > 2916 && ways < 5832 {
			t.Fatal("there is a nearer one", ways)
		}
	}
}

// The bound is for the ways to choose values, and not for the maps.
func TestFewMapsAmongTooManyWays(t *testing.T) {
	s := sigOf("3:00,11,22")
	turn, swap := []int{1, 2, 0}, []int{1, 0}
	all := modelOf([]int{3, 3, 3}, turn, turn, turn)
	if list := impl.HomsOf(s, all, all); list != nil || !impl.HomOk(s, all, all, selfRows(all)) {
		t.Fatal(list)
	}
	fewer := modelOf([]int{3, 3, 2}, turn, turn, swap)
	for _, c := range []struct {
		b    impl.Model
		want int
	}{
		{fewer, 18},
		{modelOf([]int{3, 3, 2}, turn, turn, []int{0, 1}), 18},
		{modelOf([]int{3, 3, 2}, []int{0, 1, 2}, turn, swap), 18},
		{modelOf([]int{3, 3, 2}, []int{1, 0, 0}, turn, swap), 0},
		{modelOf([]int{3, 3, 1}, turn, turn, []int{0}), 9},
		// Nine ways more for the last sort are too many.
		{modelOf([]int{3, 3, 3}, turn, turn, []int{0, 1, 2}), 0},
	} {
		if list := checkHoms(t, s, fewer, c.b); len(list) != c.want {
			t.Fatal(c, list)
		}
	}
}
