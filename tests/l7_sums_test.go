package tests

import (
	"slices"
	"testing"

	"loop.example/theorymodules/impl"
)

func TestP23BothWaysToTheSumAreOne(t *testing.T) {
	for _, x := range goodForks(110, 1500) {
		sum, left, right, ok := impl.SumOver(x.c, x.a, x.b, x.f, x.g)
		if !ok || !impl.SigValid(sum) || !impl.MapOk(x.a, sum, left) || !impl.MapOk(x.b, sum, right) {
			t.Fatal("no sum, or no maps to it", x, sum, left, right, ok)
		}
		first, okFirst := impl.MapThen(x.c, x.a, sum, x.f, left)
		second, okSecond := impl.MapThen(x.c, x.b, sum, x.g, right)
		if !okFirst || !okSecond {
			t.Fatal("no way", x, sum, left, right)
		}
		wantMap(t, first, true, second, true, x, sum, left, right)
		for sort := range sum.Sorts {
			if !slices.Contains(left.Sorts, sort) && !slices.Contains(right.Sorts, sort) {
				t.Fatal("a sort of neither", x, sum, sort)
			}
		}
		for op := range sum.Ops {
			if !slices.Contains(left.Ops, op) && !slices.Contains(right.Ops, op) {
				t.Fatal("an operation of neither", x, sum, op)
			}
		}
		checkOver(t, x)
		checkOver(t, x.swapped())
	}
}

// Sums of forks by chance, most of which have too many sorts or operations.
func TestSumsByChance(t *testing.T) {
	seen := map[bool]int{}
	for i, x := range manyForks(111, 4000) {
		seen[checkOver(t, x)]++
		if i%2 == 0 {
			checkOver(t, x.swapped())
		}
	}
	wantSeen(t, seen, 2, 500)
}

func TestSums(t *testing.T) {
	for _, c := range []struct {
		x           fork
		sum         string
		left, right impl.Map
	}{
		// The order of the sorts: those of the first one, and then those of the second one that are not common.
		{forkOf("1:", "2:", "2:", mapOf([]int{1}), mapOf([]int{1})), "3:", mapOf([]int{0, 1}), mapOf([]int{2, 1})},
		{forkOf("1:", "2:", "2:", mapOf([]int{1}), mapOf([]int{0})), "3:", mapOf([]int{0, 1}), mapOf([]int{1, 2})},
		{forkOf("1:", "1:", "3:", mapOf([]int{0}), mapOf([]int{2})), "3:", mapOf([]int{0}), mapOf([]int{1, 2, 0})},
		{forkOf("2:", "2:", "3:", mapOf([]int{1, 0}), mapOf([]int{0, 2})), "3:", mapOf([]int{0, 1}), mapOf([]int{1, 2, 0})},
		{forkOf("2:", "2:", "2:", mapOf([]int{1, 0}), mapOf([]int{0, 1})), "2:", mapOf([]int{0, 1}), mapOf([]int{1, 0})},
		// The order of the operations: the same, with the sorts of the sum.
		{forkOf("1:0", "1:00,0", "1:0,000", mapOf([]int{0}, 1), mapOf([]int{0}, 0)), "1:00,0,000", mapOf([]int{0}, 0, 1), mapOf([]int{0}, 1, 2)},
		{forkOf("1:0,0", "1:0,00,0", "1:0,000,0", mapOf([]int{0}, 2, 0), mapOf([]int{0}, 0, 2)), "1:0,00,0,000", mapOf([]int{0}, 0, 1, 2), mapOf([]int{0}, 2, 3, 0)},
		{forkOf("1:", "2:01,100", "2:01,100", mapOf([]int{1}), mapOf([]int{0})), "3:01,100,12,211", mapOf([]int{0, 1}, 0, 1), mapOf([]int{1, 2}, 2, 3)},
		{forkOf("1:", "2:01,100", "2:01,100", mapOf([]int{0}), mapOf([]int{1})), "3:01,100,20,022", mapOf([]int{0, 1}, 0, 1), mapOf([]int{2, 0}, 2, 3)},
		{forkOf("2:010", "2:101,0", "2:1,010", mapOf([]int{1, 0}, 0), mapOf([]int{0, 1}, 1)), "2:101,0,0", mapOf([]int{0, 1}, 0, 1), mapOf([]int{1, 0}, 2, 0)},
		// Two sorts to one: on one side, on the other one, and on both.
		{forkOf("2:", "1:00", "2:01,110", mapOf([]int{0, 0}), mapOf([]int{0, 1})), "1:00,00,000", mapOf([]int{0}, 0), mapOf([]int{0, 0}, 1, 2)},
		{forkOf("2:", "2:01,110", "1:00", mapOf([]int{0, 1}), mapOf([]int{0, 0})), "1:00,000,00", mapOf([]int{0, 0}, 0, 1), mapOf([]int{0}, 2)},
		{forkOf("2:", "2:01,110", "2:01,110", mapOf([]int{1, 1}), mapOf([]int{1, 0})), "2:01,110,11,111", mapOf([]int{0, 1}, 0, 1), mapOf([]int{1, 1}, 2, 3)},
		{forkOf("2:", "1:", "1:", mapOf([]int{0, 0}), mapOf([]int{0, 0})), "1:", mapOf([]int{0}), mapOf([]int{0})},
		{forkOf("2:", "2:0,1", "2:0,1", mapOf([]int{1, 1}), mapOf([]int{0, 0})), "3:0,1,1,2", mapOf([]int{0, 1}, 0, 1), mapOf([]int{1, 2}, 2, 3)},
		{forkOf("3:", "1:", "3:012", mapOf([]int{0, 0, 0}), mapOf([]int{0, 1, 2})), "1:000", mapOf([]int{0}), mapOf([]int{0, 0, 0}, 0)},
		{forkOf("3:", "1:", "2:01", mapOf([]int{0, 0, 0}), mapOf([]int{1, 0, 1})), "1:00", mapOf([]int{0}), mapOf([]int{0, 0}, 0)},
		// Two operations to one: on one side, on the other one, and on both.
		{forkOf("1:0,0", "1:0", "1:0,0", mapOf([]int{0}, 0, 0), mapOf([]int{0}, 0, 1)), "1:0", mapOf([]int{0}, 0), mapOf([]int{0}, 0, 0)},
		{forkOf("1:00,00", "1:00,00", "1:0,00", mapOf([]int{0}, 1, 0), mapOf([]int{0}, 1, 1)), "1:00,0", mapOf([]int{0}, 0, 0), mapOf([]int{0}, 1, 0)},
		{forkOf("1:0,0", "1:0,0", "1:0,0", mapOf([]int{0}, 1, 1), mapOf([]int{0}, 1, 1)), "1:0,0,0", mapOf([]int{0}, 0, 1), mapOf([]int{0}, 2, 1)},
		{forkOf("2:01,10", "2:01,10", "1:00", mapOf([]int{0, 1}, 0, 1), mapOf([]int{0, 0}, 0, 0)), "1:00", mapOf([]int{0, 0}, 0, 0), mapOf([]int{0}, 0)},
		// Chains: nothing is led to both of the first sorts, and nothing to both of the second ones, and all are one.
		{forkOf("3:", "2:0,1", "2:0,1", mapOf([]int{0, 0, 1}), mapOf([]int{0, 1, 1})), "1:0,0,0,0", mapOf([]int{0, 0}, 0, 1), mapOf([]int{0, 0}, 2, 3)},
		{forkOf("3:", "2:0,1", "2:0,1", mapOf([]int{1, 1, 0}), mapOf([]int{1, 0, 0})), "1:0,0,0,0", mapOf([]int{0, 0}, 0, 1), mapOf([]int{0, 0}, 2, 3)},
		{forkOf("3:", "3:", "2:", mapOf([]int{2, 2, 1}), mapOf([]int{0, 1, 1})), "2:", mapOf([]int{0, 1, 1}), mapOf([]int{1, 1})},
		{forkOf("3:", "2:", "3:", mapOf([]int{0, 1, 1}), mapOf([]int{2, 2, 0})), "2:", mapOf([]int{0, 0}), mapOf([]int{0, 1, 0})},
		{forkOf("1:0,0,0,0,0", "1:0,0,0", "1:0,0,0", mapOf([]int{0}, 2, 2, 1, 1, 0), mapOf([]int{0}, 2, 1, 1, 0, 0)), "1:0", mapOf([]int{0}, 0, 0, 0), mapOf([]int{0}, 0, 0, 0)},
		{forkOf("1:0,0,0,0,0,0", "1:0,0,0,0", "1:0,0,0,0", mapOf([]int{0}, 0, 1, 2, 3, 3, 2), mapOf([]int{0}, 0, 0, 1, 1, 2, 2)), "1:0,0,0", mapOf([]int{0}, 0, 0, 1, 1), mapOf([]int{0}, 0, 1, 1, 2)},
		// Common parts without operations, of one sort and of more: operations of both that take and leave the same are two.
		{forkOf("1:", "1:00,0", "1:00,0", mapOf([]int{0}), mapOf([]int{0})), "1:00,0,00,0", mapOf([]int{0}, 0, 1), mapOf([]int{0}, 2, 3)},
		{forkOf("2:", "2:01", "2:01", mapOf([]int{0, 1}), mapOf([]int{0, 1})), "2:01,01", mapOf([]int{0, 1}, 0), mapOf([]int{0, 1}, 1)},
		// Two operations of one side that take and leave the same only in the sum stay two.
		{forkOf("2:", "2:0,1", "1:", mapOf([]int{0, 1}), mapOf([]int{0, 0})), "1:0,0", mapOf([]int{0, 0}, 0, 1), mapOf([]int{0})},
		// Without operations on one side or on both.
		{forkOf("1:", "1:", "1:", mapOf([]int{0}), mapOf([]int{0})), "1:", mapOf([]int{0}), mapOf([]int{0})},
		{forkOf("1:", "1:", "2:01,1", mapOf([]int{0}), mapOf([]int{1})), "2:10,0", mapOf([]int{0}), mapOf([]int{1, 0}, 0, 1)},
		{forkOf("1:", "2:01,1", "1:", mapOf([]int{1}), mapOf([]int{0})), "2:01,1", mapOf([]int{0, 1}, 0, 1), mapOf([]int{1})},
		{forkOf("3:", "3:", "3:", mapOf([]int{0, 1, 2}), mapOf([]int{2, 0, 1})), "3:", mapOf([]int{0, 1, 2}), mapOf([]int{1, 2, 0})},
		// As many sorts and operations as are allowed.
		{forkOf("1:", "1:00,00,0", "1:0,0,000", mapOf([]int{0}), mapOf([]int{0})), "1:00,00,0,0,0,000", mapOf([]int{0}, 0, 1, 2), mapOf([]int{0}, 3, 4, 5)},
		{forkOf("1:0", "1:0,0,0,0", "1:00,00,0", mapOf([]int{0}, 3), mapOf([]int{0}, 2)), "1:0,0,0,0,00,00", mapOf([]int{0}, 0, 1, 2, 3), mapOf([]int{0}, 4, 5, 3)},
		{forkOf("1:", "2:0,1,01,10,00,11", "2:", mapOf([]int{0}), mapOf([]int{0})), "3:0,1,01,10,00,11", mapOf([]int{0, 1}, 0, 1, 2, 3, 4, 5), mapOf([]int{0, 2})},
		{forkOf("1:", "2:", "2:0,1,01,10,00,11", mapOf([]int{0}), mapOf([]int{0})), "3:0,2,02,20,00,22", mapOf([]int{0, 1}), mapOf([]int{0, 2}, 0, 1, 2, 3, 4, 5)},
	} {
		wantOver(t, c.x, sigOf(c.sum), c.left, c.right, true)
		checkOver(t, c.x)
	}
}

// The sum of a signature and itself over itself is the signature, and both maps leave all.
func TestSumsOverThemselves(t *testing.T) {
	for _, s := range validSigs() {
		self := selfByHand(s)
		wantOver(t, fork{s, s, s, self, self}, s, self, self, true)
	}
}

func TestSumsThatAreTooLarge(t *testing.T) {
	for _, x := range []fork{
		// One sort more than are allowed, and all that there can be.
		forkOf("1:", "2:", "3:", mapOf([]int{0}), mapOf([]int{0})),
		forkOf("1:", "3:", "2:", mapOf([]int{2}), mapOf([]int{1})),
		forkOf("2:", "3:", "3:", mapOf([]int{0, 1}), mapOf([]int{0, 1})),
		forkOf("2:", "2:", "3:", mapOf([]int{1, 1}), mapOf([]int{0, 0})),
		forkOf("1:", "3:", "3:", mapOf([]int{0}), mapOf([]int{0})),
		forkOf("3:", "3:", "3:", mapOf([]int{1, 1, 1}), mapOf([]int{2, 2, 2})),
		// One operation more, and all that there can be.
		forkOf("1:", "1:0,0,0,0", "1:00,00,00", mapOf([]int{0}), mapOf([]int{0})),
		forkOf("1:", "1:0", "1:0,0,0,0,0,0", mapOf([]int{0}), mapOf([]int{0})),
		forkOf("1:", "1:0,0,0,0,0,0", "1:0", mapOf([]int{0}), mapOf([]int{0})),
		forkOf("1:0", "1:0,0,0,0", "1:0,0,0,0", mapOf([]int{0}, 0), mapOf([]int{0}, 0)),
		forkOf("1:0,0", "1:0,0,0,0", "1:0,0,0,0", mapOf([]int{0}, 1, 1), mapOf([]int{0}, 2, 2)),
		forkOf("1:", "1:0,0,0,0,0,0", "1:0,0,0,0,0,0", mapOf([]int{0}), mapOf([]int{0})),
		// Both.
		forkOf("1:", "2:0,0,0,0", "3:00,00,00", mapOf([]int{0}), mapOf([]int{0})),
	} {
		if !x.okByHand() {
			t.Fatal("no maps", x)
		}
		wantOver(t, x, impl.Sig{}, impl.Map{}, impl.Map{}, false)
		wantOver(t, x.swapped(), impl.Sig{}, impl.Map{}, impl.Map{}, false)
	}
}

// All ways to lead sorts to sorts.
func TestSumsOfAllSorts(t *testing.T) {
	seen := map[bool]int{}
	for _, size := range allRows([]int{3, 3, 3}) {
		c, a, b := size[0]+1, size[1]+1, size[2]+1
		for _, f := range allRows(slices.Repeat([]int{a}, c)) {
			for _, g := range allRows(slices.Repeat([]int{b}, c)) {
				seen[checkOver(t, fork{impl.Sig{Sorts: c}, impl.Sig{Sorts: a}, impl.Sig{Sorts: b}, mapOf(f), mapOf(g)})]++
			}
		}
	}
	wantSeen(t, seen, 2, 100)
}

// All ways to lead up to two operations to up to six, and three to up to four.
func TestSumsOfAllOperations(t *testing.T) {
	seen := map[bool]int{}
	for _, size := range allRows([]int{4, 7, 7}) {
		c, a, b := size[0], size[1], size[2]
		if c == 3 && (a > 4 || b > 4) {
			continue
		}
		for _, f := range allRows(slices.Repeat([]int{a}, c)) {
			for _, g := range allRows(slices.Repeat([]int{b}, c)) {
				seen[checkOver(t, fork{constants(1, c), constants(1, a), constants(1, b), mapOf([]int{0}, f...), mapOf([]int{0}, g...)})]++
			}
		}
	}
	wantSeen(t, seen, 2, 100)
}

func TestSumsOfWhatIsNotValid(t *testing.T) {
	for _, x := range knownForks() {
		for _, bad := range badForks(x) {
			wantOver(t, bad, impl.Sig{}, impl.Map{}, impl.Map{}, false)
			wantOver(t, bad.swapped(), impl.Sig{}, impl.Map{}, impl.Map{}, false)
		}
	}
	// Maps the other way round, and of other signatures.
	x := forkOf("1:0", "2:0,1", "1:00,0", mapOf([]int{1}, 1), mapOf([]int{0}, 1))
	checkOver(t, x)
	for _, other := range []fork{
		{x.c, x.a, x.b, x.g, x.f}, {x.a, x.c, x.b, x.f, x.g}, {x.a, x.a, x.b, x.f, x.g}, {sigOf("1:00"), x.a, x.b, x.f, x.g}, {sigOf("1:"), x.a, x.b, x.f, x.g}, {sigOf("2:0"), x.a, x.b, x.f, x.g},
	} {
		wantOver(t, other, impl.Sig{}, impl.Map{}, impl.Map{}, false)
	}
}
