package tests

import (
	"math"
	"math/rand"
	"strconv"
	"strings"
	"testing"

	"loop.example/theorymodules/impl"
)

// setting is a signature with the sorts of some letters.
type setting struct {
	s    impl.Sig
	vars []int
}

// sigOf reads a signature that a test needs.
func sigOf(text string) impl.Sig {
	s, ok := impl.ReadSig(text)
	if !ok {
		panic("no signature: " + text)
	}
	return s
}

// settings returns settings of 1, 2 and 3 sorts with 0 to 4 letters, also such in which a sort has no terms.
func settings() []setting {
	list := []setting{
		{sigOf("1:000,0,00"), nil},
		{sigOf("1:000,0,00"), []int{0}},
		{sigOf("1:000,0,00"), []int{0, 0}},
		{sigOf("1:000,0,00"), []int{0, 0, 0, 0}},
		{sigOf("1:"), nil},
		{sigOf("1:"), []int{0, 0, 0}},
		{sigOf("1:00"), nil},
		{sigOf("1:0,0,00,00,000,000"), []int{0, 0}},
		{sigOf("2:000,01,1"), []int{0, 1}},
		{sigOf("2:010,101,01,10,0,1"), []int{1, 0}},
		{sigOf("2:010,101,01,10,0,1"), []int{0, 1, 1, 0}},
		{sigOf("2:110,00"), []int{1}},
		{sigOf("3:012,120,20,0,1,2"), []int{2, 0, 1}},
		{sigOf("3:012,121,222,20,0,1"), []int{0, 1, 2, 2}},
		{sigOf("3:02,112,2"), nil},
	}
	r := rand.New(rand.NewSource(3))
	for sorts := 1; sorts <= 3; sorts++ {
		rows := rowsOver(sorts)
		for range 6 {
			var vars []int
			for range r.Intn(5) {
				vars = append(vars, r.Intn(sorts))
			}
			list = append(list, setting{randomSig(r, rows, sorts, 3+r.Intn(4)), vars})
		}
	}
	return list
}

// badVars returns rows that do not tell the sorts of letters, for signatures with so many sorts.
func badVars(sorts int) [][]int {
	return [][]int{{-1}, {sorts}, {0, sorts}, {0, 0, 0, -1}, {math.MaxInt}, {math.MinInt}, {0, 0, 0, 0, 0}, make([]int, 1000)}
}

// tree is a term as the tests keep it: the first number of its row, the sort, and the terms that it takes.
type tree struct {
	number int
	sort   int
	takes  []tree
}

// treeByHand reads a row from its last number on: each operation takes what lies on top of a pile.
func treeByHand(s impl.Sig, vars []int, row []int) (tree, bool) {
	if !impl.SigValid(s) || len(vars) > 4 || len(row) > 30 {
		return tree{}, false
	}
	for _, sort := range vars {
		if sort < 0 || sort >= s.Sorts {
			return tree{}, false
		}
	}
	var pile []tree
	for i := len(row) - 1; i >= 0; i-- {
		top := tree{number: row[i]}
		letter := -1
		for k := range vars {
			if row[i] == 100+k {
				letter = k
			}
		}
		switch {
		case letter >= 0:
			top.sort = vars[letter]
		case row[i] >= 0 && row[i] < len(s.Ops):
			op := s.Ops[row[i]]
			for _, sort := range op[:len(op)-1] {
				if len(pile) == 0 || pile[len(pile)-1].sort != sort {
					return tree{}, false
				}
				top.takes = append(top.takes, pile[len(pile)-1])
				pile = pile[:len(pile)-1]
			}
			top.sort = op[len(op)-1]
		default:
			return tree{}, false
		}
		pile = append(pile, top)
	}
	if len(pile) != 1 {
		return tree{}, false
	}
	return pile[0], true
}

// sortByHand is TermSort as the document tells it.
func sortByHand(s impl.Sig, vars []int, row []int) int {
	t, ok := treeByHand(s, vars, row)
	if !ok {
		return -1
	}
	return t.sort
}

func (t tree) row() []int {
	row := []int{t.number}
	for _, taken := range t.takes {
		row = append(row, taken.row()...)
	}
	return row
}

func (t tree) text() string {
	if t.number >= 100 {
		return "x" + strconv.Itoa(t.number-100)
	}
	text := "f" + strconv.Itoa(t.number)
	for i, taken := range t.takes {
		text += "(,"[i:i+1] + taken.text()
	}
	if len(t.takes) > 0 {
		text += ")"
	}
	return text
}

// parts returns the terms that begin at each place of the row.
func (t tree) parts() []tree {
	list := []tree{t}
	for _, taken := range t.takes {
		list = append(list, taken.parts()...)
	}
	return list
}

// put returns the term with each letter replaced.
func (t tree) put(terms []tree) tree {
	if t.number >= 100 {
		return terms[t.number-100]
	}
	whole := tree{number: t.number, sort: t.sort}
	for _, taken := range t.takes {
		whole.takes = append(whole.takes, taken.put(terms))
	}
	return whole
}

// swap returns the term with the part at a place replaced.
func (t tree) swap(at int, u tree) tree {
	if at == 0 {
		return u
	}
	whole := tree{number: t.number, sort: t.sort}
	at--
	for _, taken := range t.takes {
		size := len(taken.row())
		if at >= 0 && at < size {
			taken = taken.swap(at, u)
		}
		at -= size
		whole.takes = append(whole.takes, taken)
	}
	return whole
}

// match collects for each letter of a pattern the terms that stand where it stands; false if something else differs.
func (t tree) match(whole tree, found map[int][]tree) bool {
	if t.number >= 100 {
		found[t.number-100] = append(found[t.number-100], whole)
		return t.sort == whole.sort
	}
	if t.number != whole.number {
		return false
	}
	for i := range t.takes {
		if !t.takes[i].match(whole.takes[i], found) {
			return false
		}
	}
	return true
}

// matchByHand is MatchOf as the document tells it.
func matchByHand(s impl.Sig, vars []int, p []int, others []int, t []int) ([][]int, bool) {
	pattern, okP := treeByHand(s, vars, p)
	whole, okT := treeByHand(s, others, t)
	found := map[int][]tree{}
	if !okP || !okT || !pattern.match(whole, found) {
		return nil, false
	}
	rows := make([][]int, len(vars))
	for letter, list := range found {
		for _, u := range list {
			if !sameRow(u.row(), list[0].row()) {
				return nil, false
			}
		}
		rows[letter] = list[0].row()
	}
	return rows, true
}

// fitByHand is TermsFit as the document tells it, with the terms that fit.
func fitByHand(s impl.Sig, vars []int, terms [][]int, sorts []int) ([]tree, bool) {
	if !varsByHand(s, vars) || len(terms) != len(sorts) {
		return nil, false
	}
	var list []tree
	for i, row := range terms {
		t, ok := treeByHand(s, vars, row)
		if !ok || t.sort != sorts[i] {
			return nil, false
		}
		list = append(list, t)
	}
	return list, true
}

func varsByHand(s impl.Sig, vars []int) bool {
	for _, sort := range vars {
		if sort < 0 || sort >= s.Sorts {
			return false
		}
	}
	return impl.SigValid(s) && len(vars) <= 4
}

// putByHand is TermPut as the document tells it.
func putByHand(s impl.Sig, vars []int, t []int, others []int, terms [][]int) ([]int, bool) {
	whole, okT := treeByHand(s, vars, t)
	list, ok := fitByHand(s, others, terms, vars)
	if !okT || !ok || len(whole.put(list).row()) > 30 {
		return nil, false
	}
	return whole.put(list).row(), true
}

// atByHand is TermAt as the document tells it.
func atByHand(s impl.Sig, vars []int, t []int, at int) []int {
	whole, ok := treeByHand(s, vars, t)
	if !ok || at < 0 || at >= len(t) {
		return nil
	}
	return whole.parts()[at].row()
}

// swapByHand is TermSwap as the document tells it.
func swapByHand(s impl.Sig, vars []int, t []int, at int, u []int) ([]int, bool) {
	whole, okT := treeByHand(s, vars, t)
	other, okU := treeByHand(s, vars, u)
	if !okT || !okU || at < 0 || at >= len(t) || whole.parts()[at].sort != other.sort || len(whole.swap(at, other).row()) > 30 {
		return nil, false
	}
	return whole.swap(at, other).row(), true
}

// readByHand is ReadTerm as the document tells it, byte by byte.
func readByHand(s impl.Sig, vars []int, text string) ([]int, bool) {
	rest, row := text, []int(nil)
	if !varsByHand(s, vars) || !readPart(s, vars, &rest, &row) || rest != "" || sortByHand(s, vars, row) < 0 {
		return nil, false
	}
	return row, true
}

// readPart takes the text of a term away from the beginning of a text, whatever the sorts, and puts its numbers behind a row.
func readPart(s impl.Sig, vars []int, rest *string, row *[]int) bool {
	if len(*rest) < 2 || len(*row) > 30 || (*rest)[1] < '0' || (*rest)[1] > '9' {
		return false
	}
	kind, number := (*rest)[0], int((*rest)[1]-'0')
	*rest = (*rest)[2:]
	if kind == 'x' {
		*row = append(*row, 100+number)
		return number < len(vars)
	}
	if kind != 'f' || number >= len(s.Ops) {
		return false
	}
	*row = append(*row, number)
	for i := range len(s.Ops[number]) - 1 {
		if !strings.HasPrefix(*rest, "(,"[i:i+1]) {
			return false
		}
		*rest = (*rest)[1:]
		if !readPart(s, vars, rest, row) {
			return false
		}
	}
	if len(s.Ops[number]) == 1 {
		return true
	}
	closed := strings.HasPrefix(*rest, ")")
	*rest = strings.TrimPrefix(*rest, ")")
	return closed
}

// pool returns terms of a setting, from letters and constants up to such of 30 numbers, if there are any.
func (c setting) pool(seed int64, most int) [][]int {
	r := rand.New(rand.NewSource(seed))
	bySort := make([][][]int, c.s.Sorts)
	var all [][]int
	seen := map[string]bool{}
	add := func(sort int, row []int) {
		if key := textOfRow(row); len(row) <= 30 && !seen[key] {
			seen[key] = true
			bySort[sort] = append(bySort[sort], row)
			all = append(all, row)
		}
	}
	for letter, sort := range c.vars {
		add(sort, []int{100 + letter})
	}
	for op, row := range c.s.Ops {
		if len(row) == 1 {
			add(row[0], []int{op})
		}
	}
	for tries := 0; tries < 20*most && len(all) < most; tries++ {
		for op, takes := range c.s.Ops {
			row, ok := []int{op}, len(takes) > 1
			for _, sort := range takes[:len(takes)-1] {
				if list := bySort[sort]; len(list) > 0 {
					row = append(row, list[r.Intn(len(list))]...)
				} else {
					ok = false
				}
			}
			if ok {
				add(takes[len(takes)-1], row)
			}
		}
	}
	return all
}

func textOfRow(row []int) string {
	text := ""
	for _, number := range row {
		text += strconv.Itoa(number) + " "
	}
	return text
}

// letters returns the letters of a setting as terms.
func (c setting) letters() [][]int {
	var list [][]int
	for letter := range c.vars {
		list = append(list, []int{100 + letter})
	}
	return list
}

// termsFor returns for each sort a term out of a list, by chance; false if a sort has none.
func (c setting) termsFor(r *rand.Rand, list [][]int, sorts []int) ([][]int, bool) {
	var terms [][]int
	for _, sort := range sorts {
		var fit [][]int
		for _, row := range list {
			if sortByHand(c.s, c.vars, row) == sort {
				fit = append(fit, row)
			}
		}
		if len(fit) == 0 {
			return nil, false
		}
		terms = append(terms, fit[r.Intn(len(fit))])
	}
	return terms, true
}

// chain returns a term of 1:000,0,00 with so many numbers: f2 of f2 of .. and a last number.
func chain(numbers, last int) []int {
	row := make([]int, numbers)
	for i := range row {
		row[i] = 2
	}
	row[numbers-1] = last
	return row
}

// joined puts rows one behind the other.
func joined(rows ...[]int) []int {
	var whole []int
	for _, row := range rows {
		whole = append(whole, row...)
	}
	return whole
}

// sameRows compares lists of rows.
func sameRows(a, b [][]int) bool {
	if len(a) != len(b) {
		return false
	}
	for i := range a {
		if !sameRow(a[i], b[i]) {
			return false
		}
	}
	return true
}

// wantRow fails if a row and its bool are not those that are wanted, or if there is a row beside false.
func wantRow(t *testing.T, got []int, ok bool, want []int, wantOk bool, about ...any) {
	t.Helper()
	if ok != wantOk || !sameRow(got, want) || !ok && got != nil {
		t.Fatal("got", got, ok, "wanted", want, wantOk, "for", about)
	}
}
