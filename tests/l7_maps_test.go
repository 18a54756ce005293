package tests

import (
	"math/rand"
	"testing"

	"loop.example/theorymodules/impl"
)

// mapPair is a map of the first signature of a fork and one of the second one, to a fourth signature.
type mapPair struct {
	p, q impl.Map
}

// samePair compares pairs of maps.
func samePair(one, other mapPair) bool {
	return sameMap(one.p, other.p) && sameMap(one.q, other.q)
}

// pairsFrom returns for each map of the sum to a signature the maps that it is behind the maps to the sum.
func (x fork) pairsFrom(d impl.Sig) []mapPair {
	sum, _, _, _ := x.overByHand()
	var list []mapPair
	for _, u := range mapsByHand(sum, d) {
		p, q := x.led(d, u)
		list = append(list, mapPair{p, q})
	}
	return list
}

// somePairs returns pairs of maps of both sides to a signature, at most so many: all of them, or some by chance.
func (x fork) somePairs(r *rand.Rand, d impl.Sig, most int) []mapPair {
	var list []mapPair
	ps, qs := mapsByHand(x.a, d), mapsByHand(x.b, d)
	if len(ps)*len(qs) > most {
		for range most {
			list = append(list, mapPair{ps[r.Intn(len(ps))], qs[r.Intn(len(qs))]})
		}
		return list
	}
	for _, p := range ps {
		for _, q := range qs {
			list = append(list, mapPair{p, q})
		}
	}
	return list
}

// fewMaps reports whether there are at most so many ways to lead operations of both sides and of the sum to those of a signature.
func (x fork) fewMaps(d impl.Sig, most int) bool {
	sum, _, _, _ := x.overByHand()
	return waysToLead(x.a, d) <= most && waysToLead(x.b, d) <= most && waysToLead(sum, d) <= most
}

// aimsFor returns signatures to which a sum is led, by chance, and some that are small.
func aimsFor(r *rand.Rand, sum impl.Sig) []impl.Sig {
	return []impl.Sig{anyRoad(r, sum).b, anyRoad(r, sum).b, sum, sigOf("1:0,0,00,000"), sigOf("2:0,1,01,10,00"), sigOf("2:"), sigOf("1:")}
}

func TestP24ThereIsJustOneWayFromTheSum(t *testing.T) {
	r := rand.New(rand.NewSource(120))
	seen := map[[2]bool]int{}
	for _, x := range goodForks(121, 700) {
		sum, _, _, _ := x.overByHand()
		for _, d := range aimsFor(r, sum) {
			if !x.fewMaps(d, 20000) {
				continue
			}
			all := x.pairsFrom(d)
			for _, pair := range append(x.somePairs(r, d, 40), all[:min(len(all), 10)]...) {
				seen[x.checkOneWay(t, d, pair, all)]++
			}
		}
	}
	wantSeen(t, seen, 4, 300)
}

// checkOneWay looks whether there is a map of the sum that is, behind the maps to it, two maps, exactly if both, behind the maps of the third signature, are the same; whether it is the only one, among what all maps of the sum are; and whether SumMap tells it. It returns whether both are the same on the sorts, and on the operations.
func (x fork) checkOneWay(t *testing.T, d impl.Sig, pair mapPair, all []mapPair) [2]bool {
	t.Helper()
	sum, left, right, _ := x.overByHand()
	first, okFirst := impl.MapThen(x.c, x.a, d, x.f, pair.p)
	second, okSecond := impl.MapThen(x.c, x.b, d, x.g, pair.q)
	if !okFirst || !okSecond {
		t.Fatal("no maps", x, d, pair)
	}
	ways := 0
	for _, other := range all {
		if samePair(pair, other) {
			ways++
		}
	}
	u, ok := impl.SumMap(x.c, x.a, x.b, x.f, x.g, d, pair.p, pair.q)
	if ok != sameMap(first, second) || ok != (ways == 1) || !ok && ways != 0 {
		t.Fatal("not just one way", x, d, pair, u, ok, ways)
	}
	if ok {
		p, okFirst := impl.MapThen(x.a, sum, d, left, u)
		q, okSecond := impl.MapThen(x.b, sum, d, right, u)
		if !okFirst || !okSecond || !impl.MapOk(sum, d, u) || !samePair(pair, mapPair{p, q}) {
			t.Fatal("other maps", x, d, pair, u, p, q)
		}
	}
	checkSumMap(t, x, d, pair.p, pair.q)
	return [2]bool{sameRow(first.Sorts, second.Sorts), sameRow(first.Ops, second.Ops)}
}

// To the sum itself, behind the maps to it, the map that leaves all leads.
func TestMapsOfSumsToThemselves(t *testing.T) {
	for _, x := range goodForks(122, 400) {
		sum, left, right, _ := impl.SumOver(x.c, x.a, x.b, x.f, x.g)
		u, ok := impl.SumMap(x.c, x.a, x.b, x.f, x.g, sum, left, right)
		wantMap(t, u, ok, selfByHand(sum), true, x)
	}
}

func TestMapsOfSums(t *testing.T) {
	common := forkOf("1:0", "1:0,000", "2:0,01", mapOf([]int{0}, 0), mapOf([]int{0}, 0))
	bare := forkOf("1:", "1:00", "2:0,01", mapOf([]int{0}), mapOf([]int{1}))
	free := forkOf("2:0", "2:0", "2:0", mapOf([]int{0, 1}, 0), mapOf([]int{0, 1}, 0))
	oneSide := forkOf("2:", "1:00", "2:01", mapOf([]int{0, 0}), mapOf([]int{0, 1}))
	oneOp := forkOf("1:0,0", "1:0", "1:0,0,00", mapOf([]int{0}, 0, 0), mapOf([]int{0}, 0, 1))
	chain := forkOf("3:", "2:0,1", "2:0,1", mapOf([]int{0, 0, 1}), mapOf([]int{0, 1, 1}))
	for _, c := range []struct {
		x       fork
		d       string
		p, q    impl.Map
		want    impl.Map
		isThere bool
	}{
		{common, "1:0,000,00", mapOf([]int{0}, 0, 1), mapOf([]int{0, 0}, 0, 2), mapOf([]int{0, 0}, 0, 1, 2), true},
		{common, "2:1,111,10", mapOf([]int{1}, 0, 1), mapOf([]int{1, 0}, 0, 2), mapOf([]int{1, 0}, 0, 1, 2), true},
		{common, "2:0,1,000,01,10", mapOf([]int{0}, 0, 2), mapOf([]int{0, 1}, 0, 3), mapOf([]int{0, 1}, 0, 2, 3), true},
		// The same on the sorts, and not on the operations.
		{common, "1:0,0,000,00", mapOf([]int{0}, 0, 2), mapOf([]int{0, 0}, 1, 3), impl.Map{}, false},
		{common, "1:0,0,000,00", mapOf([]int{0}, 1, 2), mapOf([]int{0, 0}, 0, 3), impl.Map{}, false},
		{common, "1:0,0,000,00", mapOf([]int{0}, 1, 2), mapOf([]int{0, 0}, 1, 3), mapOf([]int{0, 0}, 1, 2, 3), true},
		// The same on the operations, and not on the sorts.
		{free, "2:0", mapOf([]int{0, 0}, 0), mapOf([]int{0, 1}, 0), impl.Map{}, false},
		{free, "2:0", mapOf([]int{0, 1}, 0), mapOf([]int{0, 0}, 0), impl.Map{}, false},
		{free, "2:0", mapOf([]int{0, 1}, 0), mapOf([]int{0, 1}, 0), mapOf([]int{0, 1}, 0), true},
		{bare, "2:00,11,0,1,10,01", mapOf([]int{0}, 0), mapOf([]int{0, 1}, 2, 5), impl.Map{}, false},
		{bare, "2:00,11,0,1,10,01", mapOf([]int{1}, 1), mapOf([]int{0, 1}, 2, 5), mapOf([]int{1, 0}, 1, 2, 5), true},
		{bare, "2:00,11,0,1,10,01", mapOf([]int{0}, 0), mapOf([]int{1, 0}, 3, 4), mapOf([]int{0, 1}, 0, 3, 4), true},
		// Neither.
		{common, "2:0,1,000,111,00,11", mapOf([]int{0}, 0, 2), mapOf([]int{1, 1}, 1, 5), impl.Map{}, false},
		// Two sorts that become one must be led to one, and two operations, too.
		{oneSide, "2:00,01,10", mapOf([]int{0}, 0), mapOf([]int{0, 1}, 1), impl.Map{}, false},
		{oneSide, "2:00,01,10", mapOf([]int{0}, 0), mapOf([]int{0, 0}, 0), mapOf([]int{0}, 0, 0), true},
		{oneSide.swapped(), "2:00,01,10", mapOf([]int{0, 1}, 1), mapOf([]int{0}, 0), impl.Map{}, false},
		{oneSide.swapped(), "2:00,01,10", mapOf([]int{0, 0}, 0), mapOf([]int{0}, 0), mapOf([]int{0}, 0, 0), true},
		{oneOp, "1:0,0,00", mapOf([]int{0}, 1), mapOf([]int{0}, 1, 0, 2), impl.Map{}, false},
		{oneOp, "1:0,0,00", mapOf([]int{0}, 1), mapOf([]int{0}, 0, 1, 2), impl.Map{}, false},
		{oneOp, "1:0,0,00", mapOf([]int{0}, 1), mapOf([]int{0}, 0, 0, 2), impl.Map{}, false},
		{oneOp, "1:0,0,00", mapOf([]int{0}, 1), mapOf([]int{0}, 1, 1, 2), mapOf([]int{0}, 1, 2), true},
		{chain, "2:0,1", mapOf([]int{0, 1}, 0, 1), mapOf([]int{0, 1}, 0, 1), impl.Map{}, false},
		{chain, "2:0,1", mapOf([]int{0, 0}, 0, 0), mapOf([]int{0, 1}, 0, 1), impl.Map{}, false},
		{chain, "2:0,1", mapOf([]int{1, 1}, 1, 1), mapOf([]int{1, 1}, 1, 1), mapOf([]int{1}, 1, 1, 1, 1), true},
		// Without operations, and to a signature that has none.
		{forkOf("1:", "1:", "1:", mapOf([]int{0}), mapOf([]int{0})), "3:012", mapOf([]int{2}), mapOf([]int{2}), mapOf([]int{2}), true},
		{forkOf("1:", "1:", "1:", mapOf([]int{0}), mapOf([]int{0})), "3:", mapOf([]int{2}), mapOf([]int{1}), impl.Map{}, false},
		{forkOf("1:", "2:", "2:", mapOf([]int{1}), mapOf([]int{0})), "1:", mapOf([]int{0, 0}), mapOf([]int{0, 0}), mapOf([]int{0, 0, 0}), true},
		{forkOf("1:", "2:", "2:", mapOf([]int{1}), mapOf([]int{0})), "3:", mapOf([]int{0, 1}), mapOf([]int{1, 2}), mapOf([]int{0, 1, 2}), true},
	} {
		d := sigOf(c.d)
		u, ok := impl.SumMap(c.x.c, c.x.a, c.x.b, c.x.f, c.x.g, d, c.p, c.q)
		wantMap(t, u, ok, c.want, c.isThere, c)
		checkSumMap(t, c.x, d, c.p, c.q)
	}
}

// noSumMap fails if there is a map of a sum.
func noSumMap(t *testing.T, x fork, d impl.Sig, p, q impl.Map) {
	t.Helper()
	u, ok := impl.SumMap(x.c, x.a, x.b, x.f, x.g, d, p, q)
	wantMap(t, u, ok, impl.Map{}, false, x, d, p, q)
}

func TestMapsOfSumsThatAreTooLarge(t *testing.T) {
	for _, x := range manyForks(123, 1500) {
		if _, _, _, ok := x.overByHand(); ok {
			continue
		}
		// All to one sort, with an operation of each kind: both are the same.
		d := sigOf("1:0,00,000")
		p, q := allToOne(x.a), allToOne(x.b)
		if !okByHand(x.a, d, p) || !okByHand(x.b, d, q) {
			t.Fatal("no maps", x, p, q)
		}
		noSumMap(t, x, d, p, q)
	}
	three, six := sigOf("3:"), sigOf("1:0,0,0,0,0,0")
	noSumMap(t, fork{sigOf("1:"), three, three, mapOf([]int{0}), mapOf([]int{0})}, sigOf("1:"), mapOf([]int{0, 0, 0}), mapOf([]int{0, 0, 0}))
	noSumMap(t, fork{sigOf("1:"), six, six, mapOf([]int{0}), mapOf([]int{0})}, six, impl.MapSelf(six), impl.MapSelf(six))
}

// allToOne returns the map of a signature to one of one sort whose operations take none, one and two values.
func allToOne(s impl.Sig) impl.Map {
	m := impl.Map{Sorts: make([]int, s.Sorts)}
	for _, row := range s.Ops {
		m.Ops = append(m.Ops, len(row)-1)
	}
	return m
}

func TestMapsOfSumsOfWhatIsNotValid(t *testing.T) {
	d := sigOf("1:0,00,000")
	for _, x := range knownForks() {
		p, q := allToOne(x.a), allToOne(x.b)
		if !checkSumMap(t, x, d, p, q) {
			t.Fatal("none", x)
		}
		for _, bad := range badForks(x) {
			noSumMap(t, bad, d, p, q)
			noSumMap(t, bad, d, zeroMap(bad.a), zeroMap(bad.b))
		}
		for _, wrong := range wrongLeads(road{x.a, d, p}) {
			noSumMap(t, x, d, wrong, q)
			noSumMap(t, x, d, wrong, wrong)
		}
		for _, wrong := range wrongLeads(road{x.b, d, q}) {
			noSumMap(t, x, d, p, wrong)
		}
		for _, bad := range invalidSigs() {
			noSumMap(t, x, bad, p, q)
			noSumMap(t, x, bad, zeroMap(x.a), zeroMap(x.b))
			noSumMap(t, x, bad, impl.Map{}, impl.Map{})
		}
	}
	// Maps exchanged, or of other signatures.
	x := forkOf("1:0", "1:0,000", "2:0,01", mapOf([]int{0}, 0), mapOf([]int{0}, 0))
	p, q := allToOne(x.a), allToOne(x.b)
	noSumMap(t, x, d, q, p)
	noSumMap(t, x.swapped(), d, p, q)
	noSumMap(t, x, sigOf("1:0,00"), p, q)
	noSumMap(t, x, sigOf("1:00,0,000"), p, q)
	noSumMap(t, x, x.a, impl.MapSelf(x.a), q)
}
