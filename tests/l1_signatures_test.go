package tests

import (
	"math"
	"math/rand"
	"reflect"
	"regexp"
	"strings"
	"testing"

	"loop.example/theorymodules/impl"
)

// The table of constants of the document.
func TestConstantsOfSignatures(t *testing.T) {
	if impl.MaxSorts != 3 || impl.MaxOps != 6 || impl.MaxTakes != 2 {
		t.Fatal(impl.MaxSorts, impl.MaxOps, impl.MaxTakes)
	}
}

func TestP42SignaturesMayHaveNoOperations(t *testing.T) {
	for sorts := 1; sorts <= 3; sorts++ {
		if !impl.SigValid(impl.Sig{Sorts: sorts}) || !impl.SigValid(impl.Sig{Sorts: sorts, Ops: [][]int{}}) {
			t.Fatal(sorts)
		}
	}
	for _, s := range validSigs() {
		if !impl.SigValid(s) {
			t.Fatal("refused", s)
		}
		if !impl.SigValid(impl.Sig{Sorts: s.Sorts}) {
			t.Fatal("refused without operations", s)
		}
	}
	for _, s := range invalidSigs() {
		if impl.SigValid(s) {
			t.Fatal("taken", s)
		}
	}
}

func TestP43AnOperationIsWhatItTakesAndWhatItLeaves(t *testing.T) {
	for _, s := range validSigs() {
		for op, row := range s.Ops {
			takes := impl.OpTakes(s, op)
			if len(takes) != len(row)-1 {
				t.Fatal(s, op, takes)
			}
			if !sameRow(append(takes, impl.OpLeaves(s, op)), row) {
				t.Fatal(s, op, takes, impl.OpLeaves(s, op))
			}
		}
	}
	s := impl.Sig{Sorts: 3, Ops: [][]int{{0, 1, 2}, {2, 0}, {1}}}
	if !sameRow(impl.OpTakes(s, 0), []int{0, 1}) || !sameRow(impl.OpTakes(s, 1), []int{2}) || len(impl.OpTakes(s, 2)) != 0 {
		t.Fatal(impl.OpTakes(s, 0), impl.OpTakes(s, 1), impl.OpTakes(s, 2))
	}
}

func TestP44WhatIsLeftIsASort(t *testing.T) {
	for _, s := range validSigs() {
		for op := range s.Ops {
			if left := impl.OpLeaves(s, op); left < 0 || left >= s.Sorts {
				t.Fatal(s, op, left)
			}
		}
	}
	s := impl.Sig{Sorts: 3, Ops: [][]int{{0, 1, 2}, {2, 0}, {1}}}
	if impl.OpLeaves(s, 0) != 2 || impl.OpLeaves(s, 1) != 0 || impl.OpLeaves(s, 2) != 1 {
		t.Fatal(impl.OpLeaves(s, 0), impl.OpLeaves(s, 1), impl.OpLeaves(s, 2))
	}
}

func TestNumbersOfNoOperation(t *testing.T) {
	for _, s := range validSigs() {
		for _, op := range []int{math.MinInt, -1, len(s.Ops), len(s.Ops) + 1, math.MaxInt} {
			if takes := impl.OpTakes(spareSig(s), op); takes != nil {
				t.Fatal(s, op, takes)
			}
			if left := impl.OpLeaves(spareSig(s), op); left != -1 {
				t.Fatal(s, op, left)
			}
		}
	}
	for _, s := range invalidSigs() {
		for _, op := range []int{math.MinInt, -1, 0, 1, 2, 6, math.MaxInt} {
			if takes := impl.OpTakes(s, op); takes != nil {
				t.Fatal(s, op, takes)
			}
			if left := impl.OpLeaves(s, op); left != -1 {
				t.Fatal(s, op, left)
			}
		}
	}
}

// sumByHand is the sum as the document tells it, if it is valid.
func sumByHand(a, b impl.Sig) (impl.Sig, bool) {
	sum := impl.Sig{Sorts: a.Sorts + b.Sorts}
	sum.Ops = append(sum.Ops, a.Ops...)
	for _, row := range b.Ops {
		var moved []int
		for _, sort := range row {
			moved = append(moved, sort+a.Sorts)
		}
		sum.Ops = append(sum.Ops, moved)
	}
	return sum, sum.Sorts <= 3 && len(sum.Ops) <= 6
}

func checkSum(t *testing.T, a, b impl.Sig) {
	t.Helper()
	want, fits := sumByHand(a, b)
	sum, ok := impl.SigSum(a, b)
	if ok != fits {
		t.Fatal(a, b, sum, ok)
	}
	if !ok {
		if !zeroSig(sum) {
			t.Fatal("beside false", a, b, sum)
		}
		return
	}
	if !sameSig(sum, want) || !impl.SigValid(sum) {
		t.Fatal(a, b, sum)
	}
	if len(sum.Ops) != len(a.Ops)+len(b.Ops) || !sameSig(impl.SigPart(sum, a.Sorts), a) {
		t.Fatal("not a part", a, b, sum)
	}
}

func TestP45TheFirstOneIsAPartOfBoth(t *testing.T) {
	list := validSigs()
	for _, a := range list {
		for _, b := range list {
			checkSum(t, a, b)
		}
	}
	two := impl.Sig{Sorts: 2, Ops: [][]int{{0, 1, 1}, {1}}}
	one := impl.Sig{Sorts: 1, Ops: [][]int{{0, 0}, {0}, {0, 0, 0}, {0}}}
	sum, ok := impl.SigSum(two, one)
	if !ok || impl.SigText(sum) != "3:011,1,22,2,222,2" {
		t.Fatal(sum, ok)
	}
	for _, c := range []struct{ a, b, want string }{
		{"1:", "1:", "2:"}, {"1:", "2:", "3:"}, {"2:", "1:", "3:"},
		{"1:00", "2:", "3:00"}, {"2:", "1:00,0", "3:22,2"}, {"1:0", "2:01,110", "3:0,12,221"},
		{"2:", "2:", ""}, {"3:", "1:", ""}, {"1:", "3:", ""}, {"3:", "3:", ""},
		{"1:0,0,0", "1:0,0,0", "2:0,0,0,1,1,1"}, {"1:0,0,0,0", "1:0,0,0", ""}, {"1:0,0,0,0,0,0", "1:0", ""}, {"1:0", "1:0,0,0,0,0,0", ""},
	} {
		a, okA := impl.ReadSig(c.a)
		b, okB := impl.ReadSig(c.b)
		sum, ok := impl.SigSum(a, b)
		if !okA || !okB || ok != (c.want != "") || impl.SigText(sum) != c.want || !ok && !zeroSig(sum) {
			t.Fatal(c, sum, ok)
		}
	}
}

func TestSumsOfSignaturesThatAreNotValid(t *testing.T) {
	plain := impl.Sig{Sorts: 1}
	for _, bad := range invalidSigs() {
		for _, good := range []impl.Sig{plain, {Sorts: 2, Ops: [][]int{{0, 1}}}, {Sorts: 3}} {
			if sum, ok := impl.SigSum(bad, good); ok || !zeroSig(sum) {
				t.Fatal(bad, good, sum, ok)
			}
			if sum, ok := impl.SigSum(good, bad); ok || !zeroSig(sum) {
				t.Fatal(good, bad, sum, ok)
			}
		}
		for _, other := range invalidSigs() {
			if sum, ok := impl.SigSum(bad, other); ok || !zeroSig(sum) {
				t.Fatal(bad, other, sum, ok)
			}
		}
	}
	// Each of these has a sum that would be valid, if one did not ask both sides.
	for _, c := range [][2]impl.Sig{
		{{Sorts: 0}, plain}, {plain, {Sorts: 0}}, {{Sorts: -1}, {Sorts: 3}}, {{Sorts: 4}, {Sorts: -1}},
		{{Sorts: 1, Ops: [][]int{{1}}}, plain}, {plain, {Sorts: 1, Ops: [][]int{{-1}}}},
	} {
		if sum, ok := impl.SigSum(c[0], c[1]); ok || !zeroSig(sum) {
			t.Fatal(c, sum, ok)
		}
	}
}

// partByHand is the part as the document tells it.
func partByHand(s impl.Sig, sorts int) impl.Sig {
	part := impl.Sig{Sorts: sorts}
	for _, row := range s.Ops {
		most := 0
		for _, sort := range row {
			most = max(most, sort)
		}
		if most < sorts {
			part.Ops = append(part.Ops, row)
		}
	}
	return part
}

func TestP46PartsOfPartsAreParts(t *testing.T) {
	for _, s := range validSigs() {
		if part := impl.SigPart(s, s.Sorts); !sameSig(part, s) {
			t.Fatal("of all sorts", s, part)
		}
		for some := 1; some <= s.Sorts; some++ {
			part := impl.SigPart(s, some)
			if !sameSig(part, partByHand(s, some)) || !impl.SigValid(part) {
				t.Fatal(s, some, part)
			}
			for fewer := 1; fewer <= some; fewer++ {
				if again := impl.SigPart(part, fewer); !sameSig(again, impl.SigPart(s, fewer)) {
					t.Fatal(s, some, fewer, again)
				}
			}
			if more := impl.SigPart(part, some+1); !zeroSig(more) {
				t.Fatal(s, some, more)
			}
		}
	}
	s := impl.Sig{Sorts: 3, Ops: [][]int{{2, 0}, {1, 0, 0}, {0, 0}, {0, 2}, {0, 1}, {0}}}
	for sorts, want := range []string{"", "1:00,0", "2:100,00,01,0", "3:20,100,00,02,01,0", ""} {
		if got := impl.SigText(impl.SigPart(s, sorts)); got != want {
			t.Fatal(sorts, got)
		}
	}
}

func TestPartsThatThereAreNot(t *testing.T) {
	for _, s := range validSigs() {
		for _, sorts := range []int{math.MinInt, -1, 0, s.Sorts + 1, math.MaxInt} {
			if part := impl.SigPart(s, sorts); !zeroSig(part) {
				t.Fatal(s, sorts, part)
			}
		}
	}
	for _, s := range invalidSigs() {
		for _, sorts := range []int{math.MinInt, -1, 0, 1, 2, 3, 4, math.MaxInt, s.Sorts} {
			if part := impl.SigPart(s, sorts); !zeroSig(part) {
				t.Fatal(s, sorts, part)
			}
		}
	}
}

func TestP47TextsOfSignaturesAreRead(t *testing.T) {
	texts := map[string]impl.Sig{}
	for _, s := range validSigs() {
		text := impl.SigText(s)
		back, ok := impl.ReadSig(text)
		if !ok || !sameSig(back, s) {
			t.Fatal(s, text, back, ok)
		}
		if other, twice := texts[text]; twice && !sameSig(other, s) {
			t.Fatal("one text of two", s, other)
		}
		texts[text] = s
	}
	for _, s := range invalidSigs() {
		if text := impl.SigText(s); text != "" {
			t.Fatal(s, text)
		}
	}
	for text, s := range map[string]impl.Sig{
		"1:":                        {Sorts: 1},
		"3:":                        {Sorts: 3},
		"1:0":                       {Sorts: 1, Ops: [][]int{{0}}},
		"1:000,0,00":                {Sorts: 1, Ops: [][]int{{0, 0, 0}, {0}, {0, 0}}},
		"2:000,01,1":                {Sorts: 2, Ops: [][]int{{0, 0, 0}, {0, 1}, {1}}},
		"3:222,222,222,222,222,222": greatest(3),
		"3:0,1,2,0,1,2":             constantsAlone(3),
	} {
		if got := impl.SigText(s); got != text {
			t.Fatal(s, got, text)
		}
	}
}

// textOfSig tells all texts of signatures, and no others.
var textOfSig = regexp.MustCompile(`\A(1:(0{1,3}(,0{1,3}){0,5})?|2:([01]{1,3}(,[01]{1,3}){0,5})?|3:([012]{1,3}(,[012]{1,3}){0,5})?)\z`)

func checkRead(t *testing.T, text string) {
	t.Helper()
	s, ok := impl.ReadSig(text)
	if ok != textOfSig.MatchString(text) {
		t.Fatalf("%q: %v %v", text, s, ok)
	}
	if !ok {
		if !zeroSig(s) {
			t.Fatalf("beside false of %q: %v", text, s)
		}
		return
	}
	if !impl.SigValid(s) || impl.SigText(s) != text {
		t.Fatalf("%q is written as %q", text, impl.SigText(s))
	}
	if behind, ok := impl.ReadSig(text + ","); ok || !zeroSig(behind) {
		t.Fatalf("%q is read with a comma behind it", text)
	}
}

// textsOver calls check for all texts of at most so many bytes of an alphabet.
func textsOver(alphabet string, most int, text string, check func(string)) {
	check(text)
	if len(text) == most {
		return
	}
	for i := range len(alphabet) {
		textsOver(alphabet, most, text+alphabet[i:i+1], check)
	}
}

func TestP48ReadTextsAreCanonical(t *testing.T) {
	for _, s := range validSigs() {
		checkRead(t, impl.SigText(s))
	}
	check := func(text string) { checkRead(t, text) }
	textsOver("0123:, ", 6, "", check)
	textsOver("01,", 9, "2:", check)
	for first := range 256 {
		for second := range 256 {
			text := string([]byte{byte(first), byte(second)})
			for _, whole := range []string{text, text + "0", "2" + text, "2:" + text, "2:0" + text, "2:0,1" + text + "1", "3:012," + text} {
				checkRead(t, whole)
			}
		}
	}
}

func TestChangedTextsAreReadAsTheyAre(t *testing.T) {
	r := rand.New(rand.NewSource(2))
	const bytes = "0123:,, 49-+\n\x00\xff"
	for _, s := range validSigs() {
		text := impl.SigText(s)
		for at := range len(text) {
			checkRead(t, text[:at])
			checkRead(t, text[at:])
			checkRead(t, text[:at]+text[at+1:])
			other := string(bytes[r.Intn(len(bytes))])
			checkRead(t, text[:at]+other+text[at:])
			checkRead(t, text[:at]+other+text[at+1:])
		}
	}
}

func TestTextsOfNoSignature(t *testing.T) {
	for _, text := range []string{
		"", " ", "1", ":", ":0", "1 0", "10", "1;0", "1,0", "1::", "1:0:", "1:0:0", ":1:0",
		"1:,", "1:0,", "1:,0", "1:0,,0", "1:0, 0", "1:0 ", " 1:0", "1: 0", "1:0\n",
		"1:1", "1:01", "1:001", "1:0,1", "2:2", "2:02", "2:0,1,2", "3:3", "3:0123", "3:4",
		"1:0000", "3:0,0000", "2:0101",
		"1:0,0,0,0,0,0,0", "3:222,222,222,222,222,222,222", "1:0,0,0,0,0,0,", "1:,,,,,,",
		"0:", "0:0", "4:", "4:0", "4:3", "9:0", "01:0", "10:0", "-1:0", "+1:0", "a:0", "/:0", "::0", "\x00:0", "\xff:0",
		"1:a", "1:-", "1:/", "1:0a", "1:-0", "1:+0", "1:\x00", "1:\xff", "1:0\x00", "1:\u0660", "\u0661:0", "\uff11:0",
		strings.Repeat("1:0,", 1000), "1:" + strings.Repeat("0", 10000), "1:" + strings.Repeat(",", 10000), "1:0" + strings.Repeat(",0", 10000),
	} {
		if s, ok := impl.ReadSig(text); ok || !zeroSig(s) {
			t.Fatalf("%q: %v %v", text, s, ok)
		}
	}
}

func TestSignaturesAreNotWrittenTo(t *testing.T) {
	list := append(validSigs(), invalidSigs()...)
	other := spareSig(impl.Sig{Sorts: 1, Ops: [][]int{{0, 0, 0}, {0}}})
	otherWhole := wholeSig(other)
	for _, plain := range list {
		s := spareSig(plain)
		whole := wholeSig(s)
		impl.SigValid(s)
		for _, n := range []int{-1, 0, 1, 2, 3} {
			impl.OpTakes(s, n)
			impl.OpLeaves(s, n)
			impl.SigPart(s, n)
		}
		impl.SigText(s)
		impl.SigSum(s, other)
		impl.SigSum(other, s)
		impl.SigSum(s, s)
		if !reflect.DeepEqual(whole, wholeSig(s)) || !reflect.DeepEqual(otherWhole, wholeSig(other)) {
			t.Fatal(plain, s, other)
		}
	}
}

func TestResultsOfSignaturesShareNoMemory(t *testing.T) {
	other := spareSig(impl.Sig{Sorts: 1, Ops: [][]int{{0, 0, 0}, {0}}})
	otherWhole := wholeSig(other)
	for _, plain := range validSigs() {
		s := spareSig(plain)
		whole := wholeSig(s)
		for op := range s.Ops {
			takes, again := impl.OpTakes(s, op), impl.OpTakes(s, op)
			scribbleRow(takes)
			if !sameRow(again, plain.Ops[op][:len(plain.Ops[op])-1]) {
				t.Fatal("results of two calls", plain, op)
			}
		}
		for sorts := 1; sorts <= s.Sorts; sorts++ {
			scribbleSig(t, impl.SigPart(s, sorts))
		}
		for _, pair := range [][2]impl.Sig{{s, other}, {other, s}, {s, s}} {
			sum, _ := impl.SigSum(pair[0], pair[1])
			scribbleSig(t, sum)
		}
		read, _ := impl.ReadSig(impl.SigText(s))
		scribbleSig(t, read)
		if !reflect.DeepEqual(whole, wholeSig(s)) || !reflect.DeepEqual(otherWhole, wholeSig(other)) {
			t.Fatal(plain, s, other)
		}
	}
}
