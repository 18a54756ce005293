package tests

import (
	"math"
	"math/rand"
	"testing"

	"loop.example/theorymodules/impl"
)

// wantTerm fails if letters, a term and their bool are not those that are wanted, or if there is something beside false.
func wantTerm(t *testing.T, x road, vars []int, row []int, wantVars []int, want []int, wantOk bool) {
	t.Helper()
	gotVars, got, ok := impl.MapTerm(x.a, x.b, x.m, vars, row)
	wantRow(t, got, ok, want, wantOk, x, vars, row)
	wantRow(t, gotVars, ok, wantVars, wantOk, x, vars, row)
}

func TestP10SortsGoAlong(t *testing.T) {
	r := rand.New(rand.NewSource(44))
	for i, x := range roads() {
		for _, vars := range [][]int{nil, randomVars(r, x.a.Sorts), randomVars(r, x.a.Sorts), randomVars(r, x.a.Sorts)} {
			for _, row := range (setting{x.a, vars}).pool(int64(i), 30) {
				ledVars, led, ok := impl.MapTerm(x.a, x.b, x.m, vars, row)
				if !ok || impl.TermSort(x.b, ledVars, led) != x.m.Sorts[impl.TermSort(x.a, vars, row)] {
					t.Fatal(x, vars, row, ledVars, led, ok)
				}
				wantVars, want, _ := termByHand(x, vars, row)
				wantTerm(t, x, vars, row, wantVars, want, true)
				wantTerm(t, road{x.a, x.a, impl.MapSelf(x.a)}, vars, row, vars, row, true)
			}
		}
	}
}

func TestTermsAlongMaps(t *testing.T) {
	one := roadOf("2:001,1,0", "1:00,0,000", []int{0, 0}, []int{2, 1, 1})
	swap := roadOf("2:01,10,0,1", "2:1,0,10,01", []int{1, 0}, []int{2, 3, 0, 1})
	none := roadOf("3:", "2:", []int{1, 0, 1}, nil)
	for _, c := range []struct {
		x                         road
		vars, row, ledVars, ledTo []int
	}{
		// Two sorts to one, and two operations to one.
		{one, []int{0, 1}, []int{0, 100, 100}, []int{0, 0}, []int{2, 100, 100}},
		{one, []int{0, 1}, []int{0, 2, 100}, []int{0, 0}, []int{2, 1, 100}},
		{one, nil, []int{1}, nil, []int{1}},
		{one, nil, []int{2}, nil, []int{1}},
		// A letter alone, and letters that do not stand in the term.
		{one, []int{0, 1}, []int{101}, []int{0, 0}, []int{101}},
		{one, []int{1, 0, 1, 0}, []int{103}, []int{0, 0, 0, 0}, []int{103}},
		{one, []int{1, 0, 1, 0}, []int{2}, []int{0, 0, 0, 0}, []int{1}},
		{swap, []int{0, 1, 1}, []int{100}, []int{1, 0, 0}, []int{100}},
		{swap, []int{0, 1, 1}, []int{2}, []int{1, 0, 0}, []int{0}},
		{swap, []int{0, 1, 1}, []int{0, 1, 0, 100}, []int{1, 0, 0}, []int{2, 3, 2, 100}},
		{swap, []int{0}, []int{1, 0, 1, 3}, []int{1}, []int{3, 2, 3, 1}},
		{none, []int{0, 1, 2, 1}, []int{102}, []int{1, 0, 1, 0}, []int{102}},
	} {
		wantTerm(t, c.x, c.vars, c.row, c.ledVars, c.ledTo, true)
	}
	// A term of as many numbers as there may be, and one of more.
	longest := roadOf("1:000,0,00", "1:0,00,000", []int{0}, []int{2, 0, 1})
	led := chain(30, 101)
	for i := range 29 {
		led[i] = 1
	}
	wantTerm(t, longest, []int{0, 0}, chain(30, 101), []int{0, 0}, led, true)
	wantTerm(t, longest, []int{0, 0}, chain(31, 101), nil, nil, false)
}

func TestTermsThatDoNotGoAlong(t *testing.T) {
	x := roadOf("2:001,1,0", "1:00,0,000", []int{0, 0}, []int{2, 1, 1})
	for _, row := range [][]int{
		nil, {}, {-1}, {3}, {99}, {102}, {100, 100}, {0, 100}, {0, 100, 100, 100}, {0, 100, 101}, {0, 1, 100}, {math.MaxInt}, {math.MinInt}, {0, 100, math.MaxInt}, {0, -1, 100},
		// These are terms of the second signature.
		{2, 100, 100}, {0, 100}, {2, 1, 1},
	} {
		wantTerm(t, x, []int{0, 1}, row, nil, nil, false)
	}
	for _, vars := range append(badVars(2), []int{1, 0}, []int{2}, nil) {
		wantTerm(t, x, vars, []int{0, 100, 100}, nil, nil, false)
	}
	for _, vars := range badVars(2) {
		wantTerm(t, x, vars, []int{1}, nil, nil, false)
	}
	good := impl.Eq{Vars: []int{0, 1}, Left: []int{0, 100, 100}, Right: []int{1}}
	for _, m := range wrongMaps(x) {
		y := road{x.a, x.b, m}
		wantTerm(t, y, good.Vars, good.Left, nil, nil, false)
		wantTerm(t, y, []int{0}, []int{100}, nil, nil, false)
		wantEq(t, y, good, impl.Eq{}, false)
	}
	for _, bad := range invalidSigs() {
		for _, y := range []road{{bad, x.b, x.m}, {x.a, bad, x.m}, {bad, bad, zeroMap(bad)}, {bad, x.b, zeroMap(bad)}, {x.a, bad, zeroMap(x.a)}} {
			wantTerm(t, y, nil, []int{0}, nil, nil, false)
			wantTerm(t, y, []int{0}, []int{100}, nil, nil, false)
			wantEq(t, y, good, impl.Eq{}, false)
			wantEq(t, y, impl.Eq{Vars: []int{0}, Left: []int{100}, Right: []int{100}}, impl.Eq{}, false)
		}
	}
}

// wrongMaps returns what is no map on a road that leads two sorts and three operations or more, the first and the last one to different ones.
func wrongMaps(x road) []impl.Map {
	most := x.m.Ops[:len(x.m.Ops)-1]
	return []impl.Map{
		{},
		{Sorts: x.m.Sorts},
		{Ops: x.m.Ops},
		{Sorts: x.m.Sorts[:1], Ops: x.m.Ops},
		{Sorts: x.m.Sorts, Ops: most},
		{Sorts: joined(x.m.Sorts, []int{0}), Ops: x.m.Ops},
		{Sorts: x.m.Sorts, Ops: joined(x.m.Ops, []int{0})},
		{Sorts: []int{0, -1}, Ops: x.m.Ops},
		{Sorts: []int{0, 3}, Ops: x.m.Ops},
		{Sorts: x.m.Sorts, Ops: joined(most, []int{-1})},
		{Sorts: x.m.Sorts, Ops: joined(most, []int{len(x.b.Ops)})},
		{Sorts: x.m.Sorts, Ops: joined(most, []int{x.m.Ops[0]})},
	}
}

// wantEq fails if an equation along a map is not that which is wanted, or if there is something beside false.
func wantEq(t *testing.T, x road, e impl.Eq, want impl.Eq, wantOk bool) {
	t.Helper()
	got, ok := impl.MapEq(x.a, x.b, x.m, e)
	if ok != wantOk || !sameEq(got, want) {
		t.Fatal("got", got, ok, "wanted", want, wantOk, "for", x, e)
	}
}

// equationsFor returns equations with letters, by chance.
func equationsFor(r *rand.Rand, c setting, most int) []impl.Eq {
	var list []impl.Eq
	rows := c.pool(r.Int63(), 30)
	for tries := 0; tries < 10*most && len(list) < most && len(rows) > 0; tries++ {
		e := impl.Eq{Vars: c.vars, Left: anyTerm(r, rows), Right: anyTerm(r, rows)}
		if eqByHand(c.s, e) {
			list = append(list, e)
		}
	}
	return list
}

func TestP11OneMapBehindTheOtherIsBoth(t *testing.T) {
	r := rand.New(rand.NewSource(45))
	for _, x := range roads() {
		y := anyRoad(r, x.b)
		both, ok := impl.MapThen(x.a, x.b, y.b, x.m, y.m)
		if !ok {
			t.Fatal(x, y)
		}
		for range 3 {
			for _, e := range equationsFor(r, setting{x.a, randomVars(r, x.a.Sorts)}, 15) {
				led, ok := impl.MapEq(x.a, x.b, x.m, e)
				if !ok || !impl.EqOk(x.b, led) {
					t.Fatal("no equation", x, e, led, ok)
				}
				want, _ := mapEqByHand(x, e)
				wantEq(t, x, e, want, true)
				wantEq(t, x, turned(e), turned(want), true)
				further, ok := impl.MapEq(x.b, y.b, y.m, led)
				wantEq(t, road{x.a, y.b, both}, e, further, ok)
				wantEq(t, road{x.a, x.a, impl.MapSelf(x.a)}, e, e, true)
			}
		}
	}
}

func TestEquationsAlongMaps(t *testing.T) {
	x := roadOf("2:001,1,1", "1:00,0,000", []int{0, 0}, []int{2, 1, 1})
	for _, c := range []struct{ from, to string }{
		// Both sides become the same.
		{" f1=f2", " f1=f1"},
		{"01 f1=f2", "00 f1=f1"},
		{"0 f0(x0,x0)=f1", "0 f2(x0,x0)=f1"},
		{"10 f0(x1,x1)=x0", "00 f2(x1,x1)=x0"},
		{"10 f0(x1,x1)=f0(x1,x1)", "00 f2(x1,x1)=f2(x1,x1)"},
		// Letters alone, and letters that stand nowhere.
		{"00 x0=x1", "00 x0=x1"},
		{"0110 x2=x1", "0000 x2=x1"},
		{"1 x0=x0", "0 x0=x0"},
		{"0001 x3=f2", "0000 x3=f1"},
	} {
		wantEq(t, x, eqOf(x.a, c.from), eqOf(x.b, c.to), true)
	}
	none := roadOf("2:", "1:", []int{0, 0}, nil)
	wantEq(t, none, eqOf(none.a, "011 x1=x2"), eqOf(none.b, "000 x1=x2"), true)
	for _, e := range []impl.Eq{
		{},
		{Vars: []int{0, 1}},
		// Sides of two sorts, though they become sides of one.
		{Vars: []int{0, 1}, Left: []int{100}, Right: []int{101}},
		{Vars: []int{0, 1}, Left: []int{1}, Right: []int{100}},
		{Vars: []int{0, 1}, Left: []int{1}},
		{Vars: []int{0, 1}, Right: []int{1}},
		{Vars: []int{0, 1}, Left: []int{1}, Right: []int{102}},
		{Vars: []int{0, 1}, Left: []int{0, 100}, Right: []int{1}},
		{Vars: []int{0, 2}, Left: []int{1}, Right: []int{1}},
		{Vars: []int{0, 0, 0, 0, 0}, Left: []int{1}, Right: []int{1}},
		{Vars: []int{-1}, Left: []int{1}, Right: []int{1}},
		{Left: chain(31, 1), Right: chain(31, 1)},
		// An equation over the second signature alone.
		{Vars: []int{0}, Left: []int{2, 100, 100}, Right: []int{0, 100}},
	} {
		wantEq(t, x, e, impl.Eq{}, false)
		wantEq(t, x, turned(e), impl.Eq{}, false)
	}
}
