package tests

import (
	"math"
	"math/rand"
	"slices"
	"testing"

	"loop.example/theorymodules/impl"
)

// The table of constants of the document.
func TestConstantsOfMaps(t *testing.T) {
	if impl.MaxTries != 3000 {
		t.Fatal(impl.MaxTries)
	}
}

func TestP62NothingIsLedToSomething(t *testing.T) {
	for _, s := range validSigs() {
		for sort := range s.Sorts {
			if !impl.MapOk(sigOf("1:"), s, impl.Map{Sorts: []int{sort}}) || !impl.MapOk(sigOf("1:"), s, impl.Map{Sorts: []int{sort}, Ops: []int{}}) {
				t.Fatal("refused", s, sort)
			}
		}
		for _, sort := range []int{-1, s.Sorts, s.Sorts + 1, math.MaxInt, math.MinInt} {
			if impl.MapOk(sigOf("1:"), s, impl.Map{Sorts: []int{sort}}) {
				t.Fatal("taken", s, sort)
			}
		}
		if impl.MapOk(sigOf("1:"), s, impl.Map{Sorts: []int{0}, Ops: []int{0}}) || impl.MapOk(sigOf("1:"), s, impl.Map{}) || impl.MapOk(sigOf("1:"), s, impl.Map{Sorts: []int{0, 0}}) {
			t.Fatal("too many or too few", s)
		}
	}
	for _, s := range invalidSigs() {
		if impl.MapOk(sigOf("1:"), s, impl.Map{Sorts: []int{0}}) {
			t.Fatal("taken", s)
		}
	}
}

func TestMaps(t *testing.T) {
	for i, x := range knownRoads() {
		if !impl.MapOk(x.a, x.b, x.m) || !okByHand(x.a, x.b, x.m) {
			t.Fatal("refused", i, x)
		}
	}
	for _, x := range []road{
		// Too few and too many sorts and operations.
		roadOf("2:001,1", "2:001,1", []int{0}, []int{0, 1}),
		roadOf("2:001,1", "2:001,1", nil, []int{0, 1}),
		roadOf("2:001,1", "2:001,1", []int{0, 1, 1}, []int{0, 1}),
		roadOf("2:001,1", "2:001,1", []int{0, 1}, []int{0}),
		roadOf("2:001,1", "2:001,1", []int{0, 1}, nil),
		roadOf("2:001,1", "2:001,1", []int{0, 1}, []int{0, 1, 1}),
		roadOf("2:", "1:", []int{0}, nil),
		roadOf("1:", "2:", []int{0, 1}, nil),
		roadOf("1:", "1:", []int{0}, []int{0}),
		roadOf("1:0", "1:", []int{0}, nil),
		roadOf("1:0", "1:", []int{0}, []int{0}),
		roadOf("1:", "1:0", []int{0}, []int{0}),
		// Numbers below 0 and past the end.
		roadOf("2:001,1", "2:001,1", []int{0, 2}, []int{0, 1}),
		roadOf("2:001,1", "2:001,1", []int{-1, 1}, []int{0, 1}),
		roadOf("2:001,1", "2:001,1", []int{0, 1}, []int{0, 2}),
		roadOf("2:001,1", "2:001,1", []int{0, 1}, []int{-1, 1}),
		roadOf("2:001,1", "2:001,1", []int{0, math.MaxInt}, []int{0, 1}),
		roadOf("2:001,1", "2:001,1", []int{0, 1}, []int{math.MinInt, math.MaxInt}),
		// Letters are no operations, and no sorts.
		roadOf("2:001,1", "2:001,1", []int{100, 101}, []int{0, 1}),
		roadOf("2:001,1", "2:001,1", []int{0, 1}, []int{100, 101}),
		// A sort that no operation needs.
		roadOf("2:00", "2:00", []int{0, 2}, []int{0}),
		roadOf("2:", "2:", []int{0, 2}, nil),
		// Operations that take more, fewer and other sorts, or leave another one.
		roadOf("1:00", "1:000", []int{0}, []int{0}),
		roadOf("1:000", "1:00", []int{0}, []int{0}),
		roadOf("1:0", "1:00", []int{0}, []int{0}),
		roadOf("1:00", "1:0", []int{0}, []int{0}),
		roadOf("2:011", "2:001", []int{0, 1}, []int{0}),
		roadOf("2:011", "2:101", []int{0, 1}, []int{0}),
		roadOf("2:011", "2:010", []int{0, 1}, []int{0}),
		roadOf("2:011", "2:011", []int{1, 0}, []int{0}),
		roadOf("2:011", "1:000", []int{0, 0}, []int{1}),
		roadOf("1:00,0", "1:00,0", []int{0}, []int{1, 0}),
		roadOf("1:00,0", "1:00,0", []int{0}, []int{0, 0}),
		// Two sorts that are led to one need an operation of this one.
		roadOf("2:001,1", "2:001,1", []int{0, 0}, []int{0, 1}),
		roadOf("2:001,1", "2:001,1", []int{1, 1}, []int{0, 1}),
	} {
		if impl.MapOk(x.a, x.b, x.m) {
			t.Fatal("taken", x)
		}
	}
}

func TestMapsByChance(t *testing.T) {
	r := rand.New(rand.NewSource(42))
	seen := map[bool]int{}
	for _, x := range roads() {
		if !impl.MapOk(x.a, x.b, x.m) {
			t.Fatal("refused", x)
		}
		for range 40 {
			m, a, b := anyMap(r, x), anySig(r, x.a), anySig(r, x.b)
			want := okByHand(a, b, m)
			seen[want]++
			if impl.MapOk(a, b, m) != want {
				t.Fatal(a, b, m, want)
			}
		}
	}
	if seen[true] < 100 || seen[false] < 100 {
		t.Fatal(seen)
	}
}

// zeroMap returns a row of zeros for the sorts of a signature, as far as it can be written down, and one for its operations.
func zeroMap(s impl.Sig) impl.Map {
	return impl.Map{Sorts: make([]int, min(max(s.Sorts, 0), 1000)), Ops: make([]int, len(s.Ops))}
}

func TestMapsOfWhatIsNotValid(t *testing.T) {
	for _, bad := range invalidSigs() {
		zero := zeroMap(bad)
		self := zeroMap(bad)
		for i := range self.Sorts {
			self.Sorts[i] = i
		}
		for i := range self.Ops {
			self.Ops[i] = i
		}
		if impl.MapOk(bad, bad, self) || impl.MapOk(bad, bad, zero) || impl.MapOk(bad, bad, impl.Map{}) {
			t.Fatal("to itself", bad)
		}
		for _, s := range []impl.Sig{sigOf("1:"), sigOf("1:0,00,000"), sigOf("2:0,1"), sigOf("1:0,0,0,0,0,0"), sigOf("3:012")} {
			for _, m := range []impl.Map{zero, self, zeroMap(s), selfByHand(s), {}} {
				if impl.MapOk(bad, s, m) || impl.MapOk(s, bad, m) {
					t.Fatal("taken", bad, s, m)
				}
			}
		}
		wantMap(t, impl.MapSelf(bad), true, impl.Map{}, true, bad)
	}
}

func TestP63ToItselfIsAMap(t *testing.T) {
	for _, s := range validSigs() {
		m := impl.MapSelf(s)
		wantMap(t, m, true, selfByHand(s), true, s)
		if !impl.MapOk(s, s, m) {
			t.Fatal("no map", s, m)
		}
	}
	wantMap(t, impl.MapSelf(sigOf("3:")), true, impl.Map{Sorts: []int{0, 1, 2}}, true)
	wantMap(t, impl.MapSelf(sigOf("1:000,0,00")), true, impl.Map{Sorts: []int{0}, Ops: []int{0, 1, 2}}, true)
	wantMap(t, impl.MapSelf(sigOf("2:01,01")), true, impl.Map{Sorts: []int{0, 1}, Ops: []int{0, 1}}, true)
	// For a signature that is not valid nothing is told, also if it has sorts and operations.
	wantMap(t, impl.MapSelf(impl.Sig{Sorts: 2, Ops: [][]int{{0}, {2}}}), true, impl.Map{}, true)
	wantMap(t, impl.MapSelf(impl.Sig{}), true, impl.Map{}, true)
}

func TestP9MapsFollowEachOther(t *testing.T) {
	r := rand.New(rand.NewSource(43))
	for _, x := range roads() {
		then, ok := impl.MapThen(x.a, x.b, x.b, x.m, impl.MapSelf(x.b))
		wantMap(t, then, ok, x.m, true, "behind it", x)
		then, ok = impl.MapThen(x.a, x.a, x.b, impl.MapSelf(x.a), x.m)
		wantMap(t, then, ok, x.m, true, "ahead of it", x)
		for range 5 {
			y := anyRoad(r, x.b)
			z := anyRoad(r, y.b)
			both, ok := impl.MapThen(x.a, x.b, y.b, x.m, y.m)
			want, _ := thenByHand(x.a, x.b, y.b, x.m, y.m)
			wantMap(t, both, ok, want, true, x, y)
			if !impl.MapOk(x.a, y.b, both) {
				t.Fatal("no map", x, y, both)
			}
			// Three maps, the first two put together first, and the last two.
			left, okLeft := impl.MapThen(x.a, y.b, z.b, both, z.m)
			last, okLast := impl.MapThen(x.b, y.b, z.b, y.m, z.m)
			right, okRight := impl.MapThen(x.a, x.b, z.b, x.m, last)
			wantMap(t, left, okLeft, right, okRight, x, y, z)
			if !okLast || !okLeft {
				t.Fatal(x, y, z)
			}
		}
	}
}

func TestMapsBehindEachOther(t *testing.T) {
	two := roadOf("2:001,1", "2:110,0,1,001", []int{1, 0}, []int{0, 1})
	one := roadOf("2:110,0,1,001", "1:0,000", []int{0, 0}, []int{1, 0, 0, 1})
	for _, c := range []struct {
		x, y road
		want impl.Map
	}{
		// Two sorts to one, by the second map, by the first one, and by none.
		{two, one, impl.Map{Sorts: []int{0, 0}, Ops: []int{1, 0}}},
		{roadOf("2:001,1", "1:00,0,000", []int{0, 0}, []int{2, 1}), roadOf("1:00,0,000", "2:1,11,0,111", []int{1}, []int{1, 0, 3}), impl.Map{Sorts: []int{1, 1}, Ops: []int{3, 0}}},
		{two, roadOf("2:110,0,1,001", "2:001,1,0,110", []int{1, 0}, []int{0, 1, 2, 3}), impl.Map{Sorts: []int{0, 1}, Ops: []int{0, 1}}},
		{roadOf("3:", "2:", []int{1, 0, 1}, nil), roadOf("2:", "3:012", []int{2, 0}, nil), impl.Map{Sorts: []int{0, 2, 0}}},
		{roadOf("1:", "2:01,1", []int{1}, nil), roadOf("2:01,1", "1:0,00", []int{0, 0}, []int{1, 0}), impl.Map{Sorts: []int{0}}},
	} {
		got, ok := impl.MapThen(c.x.a, c.x.b, c.y.b, c.x.m, c.y.m)
		wantMap(t, got, ok, c.want, true, c)
		// One of both is none: with a number that is wrong, and with a number too many.
		for _, wrong := range []impl.Map{
			{},
			{Sorts: []int{-1, 0, 0}, Ops: c.x.m.Ops},
			{Sorts: append(slices.Clone(c.x.m.Sorts), 0), Ops: c.x.m.Ops},
			{Sorts: c.x.m.Sorts, Ops: append(slices.Clone(c.x.m.Ops), 0)},
			{Sorts: c.x.m.Sorts[1:], Ops: c.x.m.Ops},
		} {
			got, ok = impl.MapThen(c.x.a, c.x.b, c.y.b, wrong, c.y.m)
			wantMap(t, got, ok, impl.Map{}, false, "the first one", c, wrong)
		}
		for _, wrong := range []impl.Map{
			{},
			{Sorts: []int{9, 0}, Ops: c.y.m.Ops},
			{Sorts: append(slices.Clone(c.y.m.Sorts), 0), Ops: c.y.m.Ops},
			{Sorts: c.y.m.Sorts, Ops: append(slices.Clone(c.y.m.Ops), 0)},
			{Sorts: c.y.m.Sorts[1:], Ops: c.y.m.Ops},
		} {
			got, ok = impl.MapThen(c.x.a, c.x.b, c.y.b, c.x.m, wrong)
			wantMap(t, got, ok, impl.Map{}, false, "the second one", c, wrong)
		}
		for _, bad := range invalidSigs() {
			got, ok = impl.MapThen(bad, c.x.b, c.y.b, zeroMap(bad), c.y.m)
			wantMap(t, got, ok, impl.Map{}, false, bad)
			got, ok = impl.MapThen(c.x.a, bad, c.y.b, c.x.m, zeroMap(bad))
			wantMap(t, got, ok, impl.Map{}, false, bad)
			got, ok = impl.MapThen(c.x.a, c.x.b, bad, c.x.m, c.y.m)
			wantMap(t, got, ok, impl.Map{}, false, bad)
		}
	}
	// Both are maps, but not of one signature: what the second one leads is not what the first one leads to.
	got, ok := impl.MapThen(sigOf("1:0"), sigOf("1:0,00"), sigOf("1:0"), impl.Map{Sorts: []int{0}, Ops: []int{0}}, impl.Map{Sorts: []int{0}, Ops: []int{0}})
	wantMap(t, got, ok, impl.Map{}, false)
	// The second one is none, though the first one does not lead to what is wrong in it.
	got, ok = impl.MapThen(sigOf("1:0"), sigOf("2:0,1,11"), sigOf("1:0,00"), impl.Map{Sorts: []int{0}, Ops: []int{0}}, impl.Map{Sorts: []int{0, 1}, Ops: []int{0, 0, 1}})
	wantMap(t, got, ok, impl.Map{}, false)
	got, ok = impl.MapThen(sigOf("1:0"), sigOf("2:0,1,11"), sigOf("1:0,00"), impl.Map{Sorts: []int{0}, Ops: []int{0}}, impl.Map{Sorts: []int{0, 0}, Ops: []int{0, 0, 0}})
	wantMap(t, got, ok, impl.Map{}, false)
}
