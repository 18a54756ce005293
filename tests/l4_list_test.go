package tests

import (
	"math"
	"math/rand"
	"slices"
	"testing"

	"loop.example/theorymodules/impl"
)

// checkList compares all maps of a signature to another one with what the document tells, and looks whether each is a map and stands in its place; it returns how many there are.
func checkList(t *testing.T, a, b impl.Sig) int {
	t.Helper()
	a, b = spareSig(a), spareSig(b)
	list := impl.MapsOf(a, b)
	var want []impl.Map
	if impl.SigValid(a) && impl.SigValid(b) && waysToLead(a, b) <= 3000 {
		want = mapsByHand(a, b)
	}
	if !slices.EqualFunc(list, want, sameMap) {
		t.Fatal("got", list, "wanted", want, "for", a, b)
	}
	for i, m := range list {
		if !impl.MapOk(a, b, m) {
			t.Fatal("no map", a, b, m)
		}
		if i > 0 && slices.Compare(joined(list[i-1].Sorts, list[i-1].Ops), joined(m.Sorts, m.Ops)) >= 0 {
			t.Fatal("twice, or not in order", a, b, list[i-1], m)
		}
	}
	apart(t, []any{list, a, b})
	return len(list)
}

func TestP65AllMapsAreTold(t *testing.T) {
	r := rand.New(rand.NewSource(49))
	sigs := validSigs()
	many := 0
	for _, s := range sigs {
		list := impl.MapsOf(s, s)
		few := waysToLead(s, s) <= 3000
		if few != slices.ContainsFunc(list, func(m impl.Map) bool { return sameMap(m, impl.MapSelf(s)) }) {
			t.Fatal("itself", s, list)
		}
		if !few && len(list) > 0 {
			t.Fatal("too many ways", s)
		}
		checkList(t, s, s)
		for range 3 {
			many += checkList(t, s, sigs[r.Intn(len(sigs))])
		}
		x := anyRoad(r, s)
		if checkList(t, s, x.b) == 0 && waysToLead(s, x.b) <= 3000 {
			t.Fatal("none", x)
		}
	}
	if many < 300 {
		t.Fatal(many)
	}
	for _, x := range roads() {
		checkList(t, x.a, x.b)
		if waysToLead(x.a, x.b) > 3000 {
			continue
		}
		if !slices.ContainsFunc(impl.MapsOf(x.a, x.b), func(m impl.Map) bool { return sameMap(m, x.m) }) {
			t.Fatal("not told", x)
		}
	}
}

// Each row that there is, whether it is a map or not, is a map exactly if it is told.
func TestNoOtherRowIsAMap(t *testing.T) {
	for _, c := range []struct{ a, b string }{
		{"1:0,00", "2:0,1,11"}, {"2:01,1", "2:10,0,1"}, {"2:001", "1:000,00"}, {"3:", "2:"}, {"2:", "3:0"}, {"2:0,1", "2:0,0,1"}, {"2:011,1", "2:011,111,1"},
	} {
		a, b := sigOf(c.a), sigOf(c.b)
		numbers := []int{-1, 0, 1, 2, 3, 100}
		var list []impl.Map
		numberRows(numbers, a.Sorts+len(a.Ops), nil, func(row []int) {
			for sorts := range len(row) + 1 {
				m := impl.Map{Sorts: slices.Clone(row[:sorts]), Ops: slices.Clone(row[sorts:])}
				if impl.MapOk(a, b, m) {
					list = append(list, m)
				}
			}
		})
		if !slices.EqualFunc(list, impl.MapsOf(a, b), sameMap) || len(list) == 0 {
			t.Fatal(c, list, impl.MapsOf(a, b))
		}
	}
}

func TestListsOfMaps(t *testing.T) {
	for _, c := range []struct {
		a, b string
		want []impl.Map
	}{
		// Without operations.
		{"1:", "1:", []impl.Map{{Sorts: []int{0}}}},
		{"1:", "3:", []impl.Map{{Sorts: []int{0}}, {Sorts: []int{1}}, {Sorts: []int{2}}}},
		{"3:", "1:", []impl.Map{{Sorts: []int{0, 0, 0}}}},
		{"2:", "2:", []impl.Map{{Sorts: []int{0, 0}}, {Sorts: []int{0, 1}}, {Sorts: []int{1, 0}}, {Sorts: []int{1, 1}}}},
		{"2:", "1:0,00", []impl.Map{{Sorts: []int{0, 0}}}},
		{"1:", "2:0,1,01", []impl.Map{{Sorts: []int{0}}, {Sorts: []int{1}}}},
		{"1:0", "1:", nil},
		{"3:0,1,2", "3:", nil},
		{"2:00", "1:", nil},
		// Operations, and sorts for which there is none.
		{"1:0,0", "1:0,0", []impl.Map{{Sorts: []int{0}, Ops: []int{0, 0}}, {Sorts: []int{0}, Ops: []int{0, 1}}, {Sorts: []int{0}, Ops: []int{1, 0}}, {Sorts: []int{0}, Ops: []int{1, 1}}}},
		{"1:0", "3:2,0,2", []impl.Map{{Sorts: []int{0}, Ops: []int{1}}, {Sorts: []int{2}, Ops: []int{0}}, {Sorts: []int{2}, Ops: []int{2}}}},
		{"2:0,1", "2:0,0,1", []impl.Map{
			{Sorts: []int{0, 0}, Ops: []int{0, 0}}, {Sorts: []int{0, 0}, Ops: []int{0, 1}}, {Sorts: []int{0, 0}, Ops: []int{1, 0}}, {Sorts: []int{0, 0}, Ops: []int{1, 1}},
			{Sorts: []int{0, 1}, Ops: []int{0, 2}}, {Sorts: []int{0, 1}, Ops: []int{1, 2}},
			{Sorts: []int{1, 0}, Ops: []int{2, 0}}, {Sorts: []int{1, 0}, Ops: []int{2, 1}},
			{Sorts: []int{1, 1}, Ops: []int{2, 2}},
		}},
		{"1:00", "1:000,0", nil},
		{"2:001", "2:010,100,000", []impl.Map{{Sorts: []int{0, 0}, Ops: []int{2}}}},
		{"1:000,0,00", "1:000,0,00", []impl.Map{{Sorts: []int{0}, Ops: []int{0, 1, 2}}}},
		// Two sorts to one.
		{"2:001,1", "1:00,0,000", []impl.Map{{Sorts: []int{0, 0}, Ops: []int{2, 1}}}},
		{"2:010,101,01,10,0,1", "1:00,000,0", []impl.Map{{Sorts: []int{0, 0}, Ops: []int{1, 1, 0, 0, 2, 2}}}},
		{"2:01,10", "2:11,01,10", []impl.Map{{Sorts: []int{0, 1}, Ops: []int{1, 2}}, {Sorts: []int{1, 0}, Ops: []int{2, 1}}, {Sorts: []int{1, 1}, Ops: []int{0, 0}}}},
		{"3:01,2", "2:00,1", []impl.Map{{Sorts: []int{0, 0, 1}, Ops: []int{0, 1}}}},
	} {
		a, b := sigOf(c.a), sigOf(c.b)
		if got := impl.MapsOf(a, b); !slices.EqualFunc(got, c.want, sameMap) {
			t.Fatal(c, got)
		}
		checkList(t, a, b)
	}
}

// constants returns a signature of so many sorts with so many operations that take nothing and leave the first sort.
func constants(sorts, ops int) impl.Sig {
	s := impl.Sig{Sorts: sorts}
	for range ops {
		s.Ops = append(s.Ops, []int{0})
	}
	return s
}

// There are never exactly 3000 ways to choose: this is 2*2*2*3*5*5*5, and for the three times 5 there must be 3 operations and 5 to which they are led, and then 24 ways to lead the sorts, which are powers of numbers up to 3. So this takes all numbers of ways that there are, 2916 and 3072 too.
func TestMapsWhereThereAreManyWays(t *testing.T) {
	most, next := 0, math.MaxInt
	for _, sorts := range []int{1, 2, 3} {
		for _, others := range []int{1, 2, 3} {
			for ops := range 7 {
				for otherOps := range 7 {
					a, b := constants(sorts, ops), constants(others, otherOps)
					ways := waysToLead(a, b)
					many := checkList(t, a, b)
					if ways > 3000 {
						next = min(next, ways)
					} else {
						most = max(most, ways)
					}
					if (many > 0) != (ways <= 3000 && (ops == 0 || otherOps > 0)) {
						t.Fatal(a, b, ways, many)
					}
				}
			}
		}
	}
	if most != 2916 || next != 3072 {
		t.Fatal(most, next)
	}
	for _, c := range []struct {
		a, b string
		want int
	}{
		// 2916 ways: all sorts that are led to the first one, and all operations.
		{"2:0,0,0,0,0,0", "2:0,0,0", 2 * 729},
		{"2:0,0,0,1,1,1", "2:0,0,1", 64 + 8 + 8 + 1},
		{"1:0,0,0,0", "2:0,0,0,0,0,0", 1296},
		{"1:0,0,0,0", "1:0,0,0,0,0,0", 1296},
		{"3:0,0,0", "3:0,0,0,0", 9 * 64},
		// 3072, 3125 and 3375 ways, and then as many as there can be.
		{"1:0,0,0,0,0", "3:0,0,0,0", 0},
		{"1:0,0,0,0,0", "1:0,0,0,0,0", 0},
		{"3:0,0,0", "3:0,0,0,0,0", 0},
		{"3:0,1,2,00,11,22", "3:0,1,2,00,11,22", 0},
		// There are too many ways, though just one of them is a map.
		{"1:000,000,000,000,000", "1:0,0,0,0,000", 0},
		{"3:012,120,20,0,1,2", "3:201,012,12,2,0,1", 0},
	} {
		if got := checkList(t, sigOf(c.a), sigOf(c.b)); got != c.want {
			t.Fatal(c, got)
		}
	}
	if got := checkList(t, greatest(3), greatest(3)); got != 0 {
		t.Fatal(got)
	}
}

func TestMapsOfSignaturesThatAreNotValid(t *testing.T) {
	bad := append(invalidSigs(),
		impl.Sig{Sorts: 64, Ops: make([][]int, 64)},
		impl.Sig{Sorts: math.MaxInt, Ops: make([][]int, 100)},
		impl.Sig{Sorts: math.MaxInt, Ops: [][]int{{0}}},
		impl.Sig{Sorts: 1 << 32})
	for _, one := range bad {
		for _, s := range []impl.Sig{one, sigOf("1:"), sigOf("3:"), sigOf("1:0"), sigOf("2:0,1,00"), sigOf("1:0,0,0,0,0,0")} {
			if checkList(t, one, s) > 0 || checkList(t, s, one) > 0 {
				t.Fatal("told", one, s)
			}
		}
	}
}
