package impl

import "strings"

// MaxSorts is the maximum number of sorts of a signature, MaxOps that of its operations, and MaxTakes that of sorts that an operation takes.
const (
	MaxSorts = 3
	MaxOps   = 6
	MaxTakes = 2
)

// Sig is a signature: how many sorts it has (Sorts), told by their numbers from 0 on, and for each operation the sorts that it takes, and then the one that it leaves (Ops).
type Sig struct {
	Sorts int
	Ops   [][]int
}

// SigValid reports whether a signature has 1..MaxSorts sorts, and at most MaxOps operations, each a row of 1..MaxTakes+1 sorts, by their numbers from 0 on.
func SigValid(s Sig) bool {
	if s.Sorts < 1 || s.Sorts > MaxSorts || len(s.Ops) > MaxOps {
		return false
	}
	for _, row := range s.Ops {
		if len(row) < 1 || len(row) > MaxTakes+1 || !sortsBelow(row, s.Sorts) {
			return false
		}
	}
	return true
}

// sortsBelow reports whether all sorts of a row have numbers from 0 on that are less than a number.
func sortsBelow(row []int, sorts int) bool {
	for _, sort := range row {
		if sort < 0 || sort >= sorts {
			return false
		}
	}
	return true
}

// hasOp reports whether a valid signature has an operation with a number.
func hasOp(s Sig, op int) bool {
	return SigValid(s) && op >= 0 && op < len(s.Ops)
}

// raisedRow returns a row with a number added to each of its sorts, in memory of its own, as results share none with arguments.
func raisedRow(row []int, by int) []int {
	raised := make([]int, len(row))
	for i, sort := range row {
		raised[i] = sort + by
	}
	return raised
}

// OpTakes returns the sorts that an operation of a valid signature (SigValid), told by its number from 0 on, takes; nil for others.
func OpTakes(s Sig, op int) []int {
	if !hasOp(s, op) {
		return nil
	}
	row := s.Ops[op]
	return raisedRow(row[:len(row)-1], 0)
}

// OpLeaves returns the sort that an operation of a valid signature leaves; -1 for others.
func OpLeaves(s Sig, op int) int {
	if !hasOp(s, op) {
		return -1
	}
	row := s.Ops[op]
	return row[len(row)-1]
}

// SigSum returns the signature with the sorts and operations of a valid one, and behind them those of another one, whose sorts have numbers that are greater by the number of sorts of the first one, and true; the zero value and false if it is not valid, and for others.
func SigSum(a Sig, b Sig) (Sig, bool) {
	if !SigValid(a) || !SigValid(b) {
		return Sig{}, false
	}
	sum := Sig{Sorts: a.Sorts + b.Sorts}
	for _, row := range a.Ops {
		sum.Ops = append(sum.Ops, raisedRow(row, 0))
	}
	for _, row := range b.Ops {
		sum.Ops = append(sum.Ops, raisedRow(row, a.Sorts))
	}
	if !SigValid(sum) {
		return Sig{}, false
	}
	return sum, true
}

// SigPart returns the signature of the first sorts of a valid one, so many, from 1 on and at most all, and of those of its operations that have no other sorts, in their order; the zero value for others.
func SigPart(s Sig, sorts int) Sig {
	if !SigValid(s) || sorts < 1 || sorts > s.Sorts {
		return Sig{}
	}
	part := Sig{Sorts: sorts}
	for _, row := range s.Ops {
		if sortsBelow(row, sorts) {
			part.Ops = append(part.Ops, raisedRow(row, 0))
		}
	}
	return part
}

// SigText returns the text of a valid signature: its number of sorts, a colon, and its operations with commas between them, each the digits of its sorts, that of what it leaves last; "" for others.
func SigText(s Sig) string {
	if !SigValid(s) {
		return ""
	}
	rows := make([]string, len(s.Ops))
	for i, row := range s.Ops {
		rows[i] = rowText(row)
	}
	return rowText([]int{s.Sorts}) + ":" + strings.Join(rows, ",")
}

// rowText returns the digits of the numbers of a row. Each is one digit, as MaxSorts is less than 10.
func rowText(row []int) string {
	digits := make([]byte, len(row))
	for i, number := range row {
		digits[i] = byte('0' + number)
	}
	return string(digits)
}

// ReadSig returns the valid signature whose SigText a text is, and true; the zero value and false if there is none.
func ReadSig(t string) (Sig, bool) {
	if len(t) < 2 || t[1] != ':' {
		return Sig{}, false
	}
	s := Sig{Sorts: readRow(t[:1])[0]}
	if len(t) > 2 {
		for _, row := range strings.Split(t[2:], ",") {
			s.Ops = append(s.Ops, readRow(row))
		}
	}
	if !SigValid(s) {
		return Sig{}, false
	}
	return s, true
}

// readRow returns the numbers whose digits the bytes of a text are. A byte that is no digit becomes a number below 0 or above 9, which no valid signature has.
func readRow(text string) []int {
	row := make([]int, len(text))
	for i := range row {
		row[i] = int(text[i]) - '0'
	}
	return row
}
