package tests

import (
	"math"
	"math/rand"
	"reflect"
	"testing"

	"loop.example/theorymodules/impl"
)

// spare is the number behind the end of rows made by spareRow: whoever writes to spare capacity overwrites it.
const spare = -77

// spareRow returns a copy of a row with capacity behind its end.
func spareRow(row []int) []int {
	longer := append(append(make([]int, 0, len(row)+3), row...), spare, spare, spare)
	return longer[:len(row)]
}

// spareSig returns a copy of a signature with capacity behind the end of each slice.
func spareSig(s impl.Sig) impl.Sig {
	rows := make([][]int, 0, len(s.Ops)+3)
	for _, row := range s.Ops {
		rows = append(rows, spareRow(row))
	}
	rows = append(rows, []int{spare}, []int{spare}, []int{spare})
	return impl.Sig{Sorts: s.Sorts, Ops: rows[:len(s.Ops)]}
}

// wholeSig returns all that can be reached from a signature, the spare capacity too, as a copy.
func wholeSig(s impl.Sig) impl.Sig {
	w := impl.Sig{Sorts: s.Sorts}
	for _, row := range s.Ops[:cap(s.Ops)] {
		w.Ops = append(w.Ops, append([]int{}, row[:cap(row)]...))
	}
	return w
}

// scribbleRow overwrites a row and its spare capacity.
func scribbleRow(row []int) {
	row = row[:cap(row)]
	for i := range row {
		row[i] = spare
	}
}

// scribbleSig overwrites each row of a signature, one after the other, and fails if this changes another one.
func scribbleSig(t *testing.T, s impl.Sig) {
	t.Helper()
	for i := range s.Ops {
		before := wholeSig(s)
		scribbleRow(s.Ops[i])
		after := wholeSig(s)
		for j := range after.Ops {
			if j != i && !reflect.DeepEqual(before.Ops[j], after.Ops[j]) {
				t.Fatalf("rows %d and %d share memory", i, j)
			}
		}
	}
	rows := s.Ops[:cap(s.Ops)]
	for i := range rows {
		rows[i] = []int{spare}
	}
}

// sameRow compares rows; a nil one and an empty one are the same.
func sameRow(a, b []int) bool {
	if len(a) != len(b) {
		return false
	}
	for i := range a {
		if a[i] != b[i] {
			return false
		}
	}
	return true
}

func sameSig(a, b impl.Sig) bool {
	if a.Sorts != b.Sorts || len(a.Ops) != len(b.Ops) {
		return false
	}
	for i := range a.Ops {
		if !sameRow(a.Ops[i], b.Ops[i]) {
			return false
		}
	}
	return true
}

// zeroSig reports whether a signature is the zero value, with a nil slice or an empty one.
func zeroSig(s impl.Sig) bool {
	return s.Sorts == 0 && len(s.Ops) == 0
}

// rowsOver returns all rows of 1 to 3 sorts.
func rowsOver(sorts int) [][]int {
	var rows [][]int
	shorter := [][]int{{}}
	for range 3 {
		var longer [][]int
		for _, row := range shorter {
			for sort := range sorts {
				longer = append(longer, append(append([]int{}, row...), sort))
			}
		}
		rows = append(rows, longer...)
		shorter = longer
	}
	return rows
}

// validSigs returns signatures of 1, 2 and 3 sorts: all without operations and with one, and some with 2 to 6.
func validSigs() []impl.Sig {
	r := rand.New(rand.NewSource(1))
	var list []impl.Sig
	for sorts := 1; sorts <= 3; sorts++ {
		rows := rowsOver(sorts)
		list = append(list, impl.Sig{Sorts: sorts}, impl.Sig{Sorts: sorts, Ops: [][]int{}})
		for _, row := range rows {
			list = append(list, impl.Sig{Sorts: sorts, Ops: [][]int{row}})
		}
		for ops := 2; ops <= 6; ops++ {
			for range 25 {
				list = append(list, randomSig(r, rows, sorts, ops))
			}
		}
		list = append(list, constantsAlone(sorts), greatest(sorts))
	}
	return list
}

func randomSig(r *rand.Rand, rows [][]int, sorts, ops int) impl.Sig {
	s := impl.Sig{Sorts: sorts}
	for range ops {
		s.Ops = append(s.Ops, append([]int{}, rows[r.Intn(len(rows))]...))
	}
	return s
}

// constantsAlone returns a signature of 6 constants.
func constantsAlone(sorts int) impl.Sig {
	s := impl.Sig{Sorts: sorts}
	for op := range 6 {
		s.Ops = append(s.Ops, []int{op % sorts})
	}
	return s
}

// greatest returns a signature of 6 operations that take two values of the last sort and leave one.
func greatest(sorts int) impl.Sig {
	s := impl.Sig{Sorts: sorts}
	for range 6 {
		s.Ops = append(s.Ops, []int{sorts - 1, sorts - 1, sorts - 1})
	}
	return s
}

// invalidSigs returns signatures that are not valid, each for one reason alone where that can be.
func invalidSigs() []impl.Sig {
	list := []impl.Sig{
		{},
		{Ops: [][]int{{0}}},
		{Sorts: -1},
		{Sorts: -1, Ops: [][]int{{-2}}},
		{Sorts: 4},
		{Sorts: 4, Ops: [][]int{{0}, {3, 3}}},
		{Sorts: math.MaxInt},
		{Sorts: math.MinInt},
		{Sorts: 1, Ops: make([][]int, 1)},
		{Sorts: 3, Ops: make([][]int, 6)},
		{Sorts: 3, Ops: [][]int{{}}},
		{Sorts: 3, Ops: [][]int{{0, 1, 2}, {}}},
		{Sorts: 2, Ops: [][]int{{0, 0, 0, 0}}},
		{Sorts: 2, Ops: [][]int{{0}, {1, 1, 1, 1, 1}}},
		{Sorts: 1, Ops: [][]int{{0}, {0}, {0}, {0}, {0}, {0}, {0}}},
		{Sorts: 1, Ops: make([][]int, 1000)},
	}
	for sorts := 1; sorts <= 3; sorts++ {
		for _, wrong := range []int{-1, sorts, sorts + 1, math.MaxInt, math.MinInt} {
			list = append(list,
				impl.Sig{Sorts: sorts, Ops: [][]int{{wrong}}},
				impl.Sig{Sorts: sorts, Ops: [][]int{{wrong, 0}}},
				impl.Sig{Sorts: sorts, Ops: [][]int{{0, wrong}}},
				impl.Sig{Sorts: sorts, Ops: [][]int{{0, wrong, 0}}},
				impl.Sig{Sorts: sorts, Ops: [][]int{{0, 0, wrong}}},
				impl.Sig{Sorts: sorts, Ops: [][]int{{0}, {0, 0}, {wrong, 0, 0}}})
		}
	}
	return list
}
