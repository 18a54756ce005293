package tests

import (
	"math/rand"
	"testing"

	"loop.example/theorymodules/impl"
)

// checkModelBack compares the model that a model becomes along a map with what the document tells, and returns it.
func checkModelBack(t *testing.T, x road, m impl.Model) impl.Model {
	t.Helper()
	back := impl.ModelBack(x.a, x.b, x.m, m)
	wantModel(t, back, true, modelBackByHand(x, m), true, x, m)
	return back
}

func TestP16EquationsHoldHereExactlyIfTheyHoldThere(t *testing.T) {
	r := rand.New(rand.NewSource(69))
	seen := map[bool]int{}
	for _, x := range roads() {
		for _, m := range someModels(r, x.b, 5) {
			back := checkModelBack(t, x, m)
			if !impl.ModelOk(x.a, back) {
				t.Fatal("no model", x, m, back)
			}
			for range 2 {
				for _, e := range modelEqs(r, setting{x.a, randomVars(r, x.a.Sorts)}, 12) {
					led, ok := impl.MapEq(x.a, x.b, x.m, e)
					holds := impl.Holds(x.b, m, led)
					if !ok || impl.Holds(x.a, back, e) != holds {
						t.Fatal("here or there alone", x, m, e, holds)
					}
					// It fails for the same values, too.
					want, wantOk := impl.FailsAt(x.b, m, led)
					got, ok := impl.FailsAt(x.a, back, e)
					wantRow(t, got, ok, want, wantOk, x, m, e)
					seen[holds]++
				}
			}
		}
	}
	if seen[true] < 1000 || seen[false] < 1000 {
		t.Fatal(seen)
	}
}

// A term has the value that the term along the map has.
func TestValuesAlongMaps(t *testing.T) {
	r := rand.New(rand.NewSource(70))
	for i, x := range roads() {
		vars := randomVars(r, x.a.Sorts)
		for _, m := range someModels(r, x.b, 2) {
			back := impl.ModelBack(x.a, x.b, x.m, m)
			rows := allRows(sizesByHand(m, sortsByHand(x.m, vars)))
			for _, row := range (setting{x.a, vars}).pool(int64(i+4400), 10) {
				ledVars, led, _ := impl.MapTerm(x.a, x.b, x.m, vars, row)
				values := rows[r.Intn(len(rows))]
				want := impl.ValueOf(x.b, m, ledVars, led, values)
				if got := impl.ValueOf(x.a, back, vars, row, values); got != want || got < 0 {
					t.Fatal(x, m, row, values, got, want)
				}
			}
		}
	}
}

// Along the map that leaves all a model is itself; and along two maps, one after the other, it becomes what it becomes along both.
func TestModelsComeBackTwice(t *testing.T) {
	r := rand.New(rand.NewSource(71))
	for _, x := range roads() {
		y := anyRoad(r, x.b)
		both, _ := impl.MapThen(x.a, x.b, y.b, x.m, y.m)
		for _, m := range someModels(r, y.b, 4) {
			middle := impl.ModelBack(x.b, y.b, y.m, m)
			back := impl.ModelBack(x.a, x.b, x.m, middle)
			wantModel(t, back, true, impl.ModelBack(x.a, y.b, both, m), true, x, y, m)
			wantModel(t, impl.ModelBack(y.b, y.b, impl.MapSelf(y.b), m), true, m, true, y, m)
		}
		wantModel(t, impl.ModelBack(x.a, x.b, x.m, oneValue(x.b)), true, oneValue(x.a), true, x)
	}
}

func TestModelsThatComeBack(t *testing.T) {
	xor := []int{0, 1, 1, 0}
	for _, c := range []struct {
		x    road
		m    impl.Model
		want impl.Model
	}{
		// Two sorts to one, and two operations to one.
		{roadOf("2:001,1", "1:000,0,00", []int{0, 0}, []int{0, 1}), modelOf([]int{2}, xor, []int{0}, []int{0, 1}), modelOf([]int{2, 2}, xor, []int{0})},
		{roadOf("2:001,0,1", "1:000,0,00", []int{0, 0}, []int{0, 1, 1}), modelOf([]int{2}, xor, []int{1}, []int{0, 1}), modelOf([]int{2, 2}, xor, []int{1}, []int{1})},
		{roadOf("1:00,00,00", "1:00,00", []int{0}, []int{1, 0, 1}), modelOf([]int{3}, []int{0, 1, 1}, []int{2, 1, 0}), modelOf([]int{3}, []int{2, 1, 0}, []int{0, 1, 1}, []int{2, 1, 0})},
		// Sorts of different sizes, exchanged.
		{roadOf("2:01,10", "2:10,01", []int{1, 0}, []int{0, 1}), modelOf([]int{2, 3}, []int{0, 1, 1}, []int{2, 0}), modelOf([]int{3, 2}, []int{0, 1, 1}, []int{2, 0})},
		{roadOf("2:010,1", "2:0,101,1", []int{1, 0}, []int{1, 0}), modelOf([]int{3, 2}, []int{2}, []int{0, 1, 1, 0, 0, 1}, []int{1}), modelOf([]int{2, 3}, []int{0, 1, 1, 0, 0, 1}, []int{2})},
		{roadOf("3:", "2:01", []int{1, 0, 1}, nil), modelOf([]int{1, 3}, []int{2}), modelOf([]int{3, 1, 3})},
		// Signatures without operations, on one side and on both.
		{roadOf("1:", "3:012,20", []int{2}, nil), modelOf([]int{1, 2, 3}, []int{2, 1}, []int{0, 0, 0}), modelOf([]int{3})},
		{roadOf("2:", "1:", []int{0, 0}, nil), modelOf([]int{3}), modelOf([]int{3, 3})},
		{roadOf("1:", "2:", []int{1}, nil), modelOf([]int{1, 2}), modelOf([]int{2})},
	} {
		wantModel(t, impl.ModelBack(c.x.a, c.x.b, c.x.m, c.m), true, c.want, true, c)
		checkModelBack(t, c.x, c.m)
	}
}

func TestModelsThatDoNotComeBack(t *testing.T) {
	x := roadOf("2:001,1,0", "1:00,0,000", []int{0, 0}, []int{2, 1, 1})
	m := modelOf([]int{2}, []int{1, 0}, []int{1}, []int{0, 1, 1, 0})
	none := func(x road, m impl.Model) {
		t.Helper()
		wantModel(t, impl.ModelBack(x.a, x.b, x.m, m), true, impl.Model{}, true, x, m)
	}
	if back := checkModelBack(t, x, m); len(back.Tables) != 3 {
		t.Fatal(back)
	}
	for _, wrong := range wrongMaps(x) {
		none(road{x.a, x.b, wrong}, m)
		none(road{x.a, x.b, wrong}, oneValue(x.b))
	}
	for _, bad := range append(badModels(x.b, m), badModels(x.b, oneValue(x.b))...) {
		none(x, bad)
		none(road{x.b, x.b, impl.MapSelf(x.b)}, bad)
		// Also if the map needs nothing of what is wrong.
		none(road{sigOf("1:"), x.b, impl.Map{Sorts: []int{0}}}, bad)
	}
	// A model of the first signature, and one of another one.
	none(x, oneValue(sigOf("2:001,1")))
	none(x, modelOf([]int{2, 2}, []int{0, 1, 1, 0}, []int{1}, []int{1}))
	none(x, oneValue(sigOf("1:")))
	none(roadOf("1:", "2:", []int{0}, nil), modelOf([]int{2, 4}))
	for _, bad := range invalidSigs() {
		for _, y := range []road{{bad, x.b, x.m}, {x.a, bad, x.m}, {bad, bad, zeroMap(bad)}, {bad, x.b, zeroMap(bad)}, {x.a, bad, zeroMap(x.a)}, {sigOf("1:"), bad, impl.Map{Sorts: []int{0}}}} {
			none(y, m)
			none(y, oneValue(bad))
			none(y, oneValue(x.b))
			none(y, impl.Model{})
		}
	}
}

// checkPair compares the model of the pairs of two models with what the document tells, and returns it.
func checkPair(t *testing.T, s impl.Sig, a, b impl.Model) (impl.Model, bool) {
	t.Helper()
	want, wantOk := pairByHand(s, a, b)
	got, ok := impl.ModelPair(s, a, b)
	wantModel(t, got, ok, want, wantOk, s, a, b)
	return got, ok
}

// pairSizes returns sizes for two models, of which the pairs are at most three of each sort, by chance.
func pairSizes(r *rand.Rand, sorts int) ([]int, []int) {
	var a, b []int
	for range sorts {
		both := [][]int{{1, 1}, {1, 2}, {2, 1}, {1, 3}, {3, 1}}[r.Intn(5)]
		a, b = append(a, both[0]), append(b, both[1])
	}
	return a, b
}

// evened returns a model in which some operations of two of a sort may be turned, and some of one of a sort to itself done twice are done once, by chance.
func evened(r *rand.Rand, s impl.Sig, m impl.Model) impl.Model {
	for op, row := range s.Ops {
		size, table := m.Sizes[row[0]], m.Tables[op]
		if r.Intn(2) == 0 {
			continue
		}
		if len(row) == 3 && row[0] == row[1] {
			for i := range table {
				table[i] = table[i%size*size+i/size]
			}
		}
		if len(row) == 2 && row[0] == row[1] {
			for i := range table {
				table[table[i]] = table[i]
			}
		}
	}
	return m
}

// askedEqs returns what is asked of operations alone: of each one of two of a sort whether it may be turned, and of each one of one of a sort to itself whether twice is once.
func askedEqs(s impl.Sig) []impl.Eq {
	var list []impl.Eq
	for op, row := range s.Ops {
		if len(row) == 3 && row[0] == row[1] {
			list = append(list, impl.Eq{Vars: row[:2], Left: []int{op, 100, 101}, Right: []int{op, 101, 100}})
		}
		if len(row) == 2 && row[0] == row[1] {
			list = append(list, impl.Eq{Vars: row[:1], Left: []int{op, op, 100}, Right: []int{op, 100}})
		}
	}
	return list
}

func TestP17PairsHoldWhatBothHold(t *testing.T) {
	r := rand.New(rand.NewSource(72))
	seen := map[[2]bool]int{}
	for _, c := range settings() {
		for range 30 {
			sizes, others := pairSizes(r, c.s.Sorts)
			a, b := evened(r, c.s, randomModel(r, c.s, sizes)), evened(r, c.s, randomModel(r, c.s, others))
			pairs, ok := checkPair(t, c.s, a, b)
			if !ok || !impl.ModelOk(c.s, pairs) {
				t.Fatal("no model", c, a, b, pairs, ok)
			}
			for _, e := range askedEqs(c.s) {
				first, second, both := impl.Holds(c.s, a, e), impl.Holds(c.s, b, e), impl.Holds(c.s, pairs, e)
				if both != (first && second) {
					t.Fatal("asked of operations", c, a, b, e, first, second, both)
				}
				seen[[2]bool{first, second}]++
			}
			// It is so with all equations.
			for _, e := range modelEqs(r, c, 6) {
				if impl.Holds(c.s, pairs, e) != (impl.Holds(c.s, a, e) && impl.Holds(c.s, b, e)) {
					t.Fatal(c, a, b, e)
				}
			}
		}
	}
	if len(seen) != 3 {
		t.Fatal(seen)
	}
	for _, many := range seen {
		if many < 50 {
			t.Fatal(seen)
		}
	}
}

// With the model in which each sort has one value, on either side, a model is itself.
func TestP17PairsWithOneValue(t *testing.T) {
	r := rand.New(rand.NewSource(73))
	for _, s := range validSigs() {
		one := oneValue(s)
		for _, m := range someModels(r, s, 3) {
			pairs, ok := impl.ModelPair(s, one, m)
			wantModel(t, pairs, ok, m, true, "ahead of it", s, m)
			pairs, ok = impl.ModelPair(s, m, one)
			wantModel(t, pairs, ok, m, true, "behind it", s, m)
		}
	}
}

// Pairs of pairs are the same, whichever two are put together first.
func TestPairsOfPairs(t *testing.T) {
	r := rand.New(rand.NewSource(74))
	for _, s := range validSigs() {
		var models [3]impl.Model
		for i := range models {
			models[i].Sizes = make([]int, s.Sorts)
		}
		for sort := range s.Sorts {
			large := r.Intn(3)
			for i := range models {
				models[i].Sizes[sort] = 1
			}
			models[large].Sizes[sort] = 1 + r.Intn(3)
		}
		for i := range models {
			models[i] = randomModel(r, s, models[i].Sizes)
		}
		first, okFirst := checkPair(t, s, models[0], models[1])
		last, okLast := checkPair(t, s, models[1], models[2])
		left, okLeft := checkPair(t, s, first, models[2])
		right, okRight := checkPair(t, s, models[0], last)
		wantModel(t, left, okLeft, right, okRight, s, models)
		if !okFirst || !okLast || !okLeft {
			t.Fatal("none", s, models)
		}
	}
}

func TestPairs(t *testing.T) {
	for _, c := range []struct {
		s          string
		a, b, want impl.Model
	}{
		// Without operations, with exactly three values of a sort.
		{"1:", modelOf([]int{1}), modelOf([]int{3}), modelOf([]int{3})},
		{"1:", modelOf([]int{3}), modelOf([]int{1}), modelOf([]int{3})},
		{"1:", modelOf([]int{2}), modelOf([]int{1}), modelOf([]int{2})},
		{"3:", modelOf([]int{1, 2, 3}), modelOf([]int{3, 1, 1}), modelOf([]int{3, 2, 3})},
		// Constants.
		{"2:0,1,0", modelOf([]int{1, 3}, []int{0}, []int{2}, []int{0}), modelOf([]int{2, 1}, []int{1}, []int{0}, []int{0}), modelOf([]int{2, 3}, []int{1}, []int{2}, []int{0})},
		{"1:0", modelOf([]int{1}, []int{0}), modelOf([]int{1}, []int{0}), modelOf([]int{1}, []int{0})},
		// Operations of one value, from a sort that has several values in the first one to one that has several in the second one, and back.
		{"2:01", modelOf([]int{3, 1}, []int{0, 0, 0}), modelOf([]int{1, 2}, []int{1}), modelOf([]int{3, 2}, []int{1, 1, 1})},
		{"2:10", modelOf([]int{3, 1}, []int{2}), modelOf([]int{1, 2}, []int{0, 0}), modelOf([]int{3, 2}, []int{2, 2})},
		{"2:00,11", modelOf([]int{2, 1}, []int{1, 0}, []int{0}), modelOf([]int{1, 3}, []int{0}, []int{1, 2, 0}), modelOf([]int{2, 3}, []int{1, 0}, []int{1, 2, 0})},
		// Operations of two values of sorts of different sizes.
		{"2:010", modelOf([]int{2, 1}, []int{1, 0}), modelOf([]int{1, 3}, []int{0, 0, 0}), modelOf([]int{2, 3}, []int{1, 1, 1, 0, 0, 0})},
		{"2:011", modelOf([]int{2, 1}, []int{0, 0}), modelOf([]int{1, 3}, []int{2, 1, 0}), modelOf([]int{2, 3}, []int{2, 1, 0, 2, 1, 0})},
		{"2:101", modelOf([]int{2, 3}, []int{0, 1, 2, 2, 1, 0}), modelOf([]int{1, 1}, []int{0}), modelOf([]int{2, 3}, []int{0, 1, 2, 2, 1, 0})},
		{"3:012", modelOf([]int{2, 1, 3}, []int{2, 1}), modelOf([]int{1, 3, 1}, []int{0, 0, 0}), modelOf([]int{2, 3, 3}, []int{2, 2, 2, 1, 1, 1})},
		{"3:012", modelOf([]int{2, 1, 1}, []int{0, 0}), modelOf([]int{1, 2, 3}, []int{2, 1}), modelOf([]int{2, 2, 3}, []int{2, 1, 2, 1})},
		{"3:120", modelOf([]int{1, 2, 1}, []int{0, 0}), modelOf([]int{3, 1, 2}, []int{1, 2}), modelOf([]int{3, 2, 2}, []int{1, 2, 1, 2})},
	} {
		s := sigOf(c.s)
		got, ok := impl.ModelPair(s, c.a, c.b)
		wantModel(t, got, ok, c.want, true, c)
		checkPair(t, s, c.a, c.b)
	}
}

// All sizes of a sort, the first one and the last one of several: three pairs are not too many, and four are.
func TestTooManyPairs(t *testing.T) {
	for _, text := range []string{"1:", "1:000,0,00", "2:", "2:01,1", "2:10,0", "3:", "3:012", "3:2,222"} {
		s := sigOf(text)
		for sort := range s.Sorts {
			for _, sizes := range allRows([]int{5, 5}) {
				a, b := make([]int, s.Sorts), make([]int, s.Sorts)
				for i := range s.Sorts {
					a[i], b[i] = 1, 1
				}
				a[sort], b[sort] = sizes[0], sizes[1]
				pairs, ok := checkPair(t, s, zeroModel(s, a), zeroModel(s, b))
				valid := sizes[0] >= 1 && sizes[0] <= 3 && sizes[1] >= 1 && sizes[1] <= 3
				if ok != (valid && sizes[0]*sizes[1] <= 3) || ok && pairs.Sizes[sort] != sizes[0]*sizes[1] {
					t.Fatal(text, a, b, pairs, ok)
				}
			}
		}
	}
	xor := knownModels()[0]
	pairs, ok := impl.ModelPair(sigOf("1:000,0,00"), xor, xor)
	wantModel(t, pairs, ok, impl.Model{}, false)
}

func TestPairsOfWhatIsNoModel(t *testing.T) {
	none := func(s impl.Sig, a, b impl.Model) {
		t.Helper()
		got, ok := impl.ModelPair(s, a, b)
		wantModel(t, got, ok, impl.Model{}, false, s, a, b)
	}
	for _, s := range []impl.Sig{sigOf("1:"), sigOf("1:000,0,00"), sigOf("2:010,01,1,0"), sigOf("3:012,2"), sigOf("3:")} {
		one, two := oneValue(s), zeroModel(s, []int{2, 3, 1}[:s.Sorts])
		for _, m := range []impl.Model{one, two} {
			for _, bad := range badModels(s, m) {
				none(s, bad, one)
				none(s, one, bad)
				none(s, two, bad)
				none(s, bad, bad)
			}
		}
		// Models of two signatures.
		other := oneValue(sigOf("2:0,1,00,11,01"))
		none(s, one, other)
		none(s, other, one)
		none(s, other, other)
	}
	for _, bad := range invalidSigs() {
		none(bad, oneValue(bad), oneValue(bad))
		none(bad, impl.Model{}, impl.Model{})
		none(bad, oneValue(sigOf("1:")), oneValue(sigOf("1:")))
	}
}
