package tests

import (
	"math/rand"
	"slices"
	"testing"

	"loop.example/theorymodules/impl"
)

// checkKernel compares which values a map leads to one, and to which it leads, with what the document tells, and returns both.
func checkKernel(t *testing.T, x leading) ([][]int, []int) {
	t.Helper()
	kernel, image := impl.KernelOf(x.s, x.a, x.b, x.h), impl.ImageOf(x.s, x.a, x.b, x.h)
	wantRows(t, kernel, kernelByHand(x.s, x.a, x.b, x.h), x)
	wantSets(t, image, imageByHand(x.s, x.a, x.b, x.h), x)
	return kernel, image
}

func TestP22EveryMapIsAQuotientAndThenAPart(t *testing.T) {
	r := rand.New(rand.NewSource(97))
	seen := map[[2]bool]int{}
	for _, c := range settings() {
		for _, x := range someLeadings(r, c.s, 5) {
			kernel, image := checkKernel(t, x)
			quotient, h, ok := impl.QuotientOf(x.s, x.a, kernel)
			if !ok {
				t.Fatal("no quotient", x, kernel)
			}
			for sort, size := range quotient.Sizes {
				if size != len(valuesOf(image[sort])) {
					t.Fatal("as many values", x, quotient, image)
				}
			}
			part, ok := impl.PartModel(x.s, x.b, image)
			if !ok {
				t.Fatal("no part", x, image)
			}
			checkBothWays(t, x, quotient, h, part, image)
			// Whether no two values are led to one, and whether there are values to which none is led.
			seen[[2]bool{sameModel(quotient, x.a), sameModel(part, x.b)}]++
		}
	}
	wantSeen(t, seen, 4, 50)
}

// checkBothWays looks whether the quotient by a map is led to the part to which it leads, and this to it, so that the map is the one to the quotient, then this one, and then that of the part.
func checkBothWays(t *testing.T, x leading, quotient impl.Model, h [][]int, part impl.Model, image []int) {
	t.Helper()
	var there, back [][]int
	for sort, size := range quotient.Sizes {
		to, from := make([]int, size), make([]int, size)
		for value, class := range h[sort] {
			place := slices.Index(valuesOf(image[sort]), x.h[sort][value])
			to[class], from[place] = place, class
		}
		there, back = append(there, to), append(back, from)
		for value, class := range h[sort] {
			if valuesOf(image[sort])[to[class]] != x.h[sort][value] {
				t.Fatal("not the map", x, quotient, part)
			}
		}
	}
	if !impl.HomOk(x.s, quotient, part, there) || !impl.HomOk(x.s, part, quotient, back) {
		t.Fatal("not the same", x, quotient, part, there, back)
	}
}

func TestP71ImagesAreParts(t *testing.T) {
	r := rand.New(rand.NewSource(98))
	grown := 0
	for _, c := range settings() {
		for _, x := range someLeadings(r, c.s, 5) {
			image := impl.ImageOf(x.s, x.a, x.b, x.h)
			wantSets(t, impl.MadeOf(x.s, x.b, image), image, "operations leave it", x, image)
			for sort, set := range image {
				if set <= 0 {
					t.Fatal("no value", x, sort, image)
				}
			}
			if sameRow(image, fullSets(x.b)) {
				continue
			}
			grown++
			// What is made of some values is led to what is made of those to which they are led.
			list := allSets(x.a)
			sets := list[r.Intn(len(list))]
			ledSets, ledMade := ledByHand(x, sets), ledByHand(x, impl.MadeOf(x.s, x.a, sets))
			wantSets(t, impl.MadeOf(x.s, x.b, ledSets), ledMade, x, sets)
		}
	}
	if grown < 200 {
		t.Fatal(grown)
	}
}

// ledByHand returns the sets of the values to which a map leads those of sets.
func ledByHand(x leading, sets []int) []int {
	var led []int
	for sort, set := range sets {
		whole := 0
		for _, value := range valuesOf(set) {
			whole |= setOf(x.h[sort][value])
		}
		led = append(led, whole)
	}
	return led
}

func TestKernelsAndImages(t *testing.T) {
	three, line := knownModels()[1], modelOf([]int{3}, []int{1, 2, 2})
	for _, c := range []struct {
		s      string
		a, b   impl.Model
		h      [][]int
		kernel [][]int
		image  []int
	}{
		{"1:00", line, line, [][]int{{1, 2, 2}}, [][]int{{0, 1, 1}}, []int{6}},
		{"1:00", line, line, [][]int{{2, 2, 2}}, [][]int{{0, 0, 0}}, []int{4}},
		{"1:00", line, line, [][]int{{0, 1, 2}}, [][]int{{0, 1, 2}}, []int{7}},
		{"1:000,0,00", three, three, [][]int{{0, 2, 1}}, [][]int{{0, 1, 2}}, []int{7}},
		{"1:000,0,00", three, three, [][]int{{0, 0, 0}}, [][]int{{0, 0, 0}}, []int{1}},
		{"1:000,0,00", three, knownModels()[2], [][]int{{1, 1, 1}}, [][]int{{0, 0, 0}}, []int{2}},
		// The least value that is led there, also if one between is led elsewhere.
		{"1:", modelOf([]int{3}), modelOf([]int{3}), [][]int{{2, 0, 2}}, [][]int{{0, 1, 0}}, []int{5}},
		{"1:", modelOf([]int{3}), modelOf([]int{3}), [][]int{{2, 2, 1}}, [][]int{{0, 0, 2}}, []int{6}},
		{"1:", modelOf([]int{3}), modelOf([]int{3}), [][]int{{2, 1, 0}}, [][]int{{0, 1, 2}}, []int{7}},
		{"1:", modelOf([]int{3}), modelOf([]int{2}), [][]int{{1, 0, 0}}, [][]int{{0, 1, 1}}, []int{3}},
		{"1:", modelOf([]int{2}), modelOf([]int{3}), [][]int{{2, 0}}, [][]int{{0, 1}}, []int{5}},
		{"1:", modelOf([]int{1}), modelOf([]int{3}), [][]int{{1}}, [][]int{{0}}, []int{2}},
		// More sorts.
		{"2:", modelOf([]int{3, 2}), modelOf([]int{1, 3}), [][]int{{0, 0, 0}, {2, 1}}, [][]int{{0, 0, 0}, {0, 1}}, []int{1, 6}},
		{"2:01", modelOf([]int{3, 2}, []int{0, 1, 1}), modelOf([]int{2, 3}, []int{2, 0}), [][]int{{0, 1, 1}, {2, 0}}, [][]int{{0, 1, 1}, {0, 1}}, []int{3, 5}},
		{"3:012", modelOf([]int{2, 1, 3}, []int{2, 1}), modelOf([]int{1, 2, 2}, []int{1, 0}), [][]int{{0, 0}, {1}, {1, 0, 0}}, [][]int{{0, 0}, {0}, {0, 1, 1}}, []int{1, 2, 3}},
		// Rows that are no map.
		{"1:00", line, line, [][]int{{0, 0, 0}}, nil, nil},
		{"1:00", line, line, [][]int{{2, 1, 0}}, nil, nil},
		{"1:00", line, line, [][]int{{1, 2}}, nil, nil},
		{"1:00", line, line, [][]int{{1, 2, 2, 2}}, nil, nil},
		{"1:00", line, line, [][]int{{1, 2, 3}}, nil, nil},
		{"1:00", line, line, [][]int{{1, 2, 2}, {0}}, nil, nil},
		{"1:00", line, line, nil, nil, nil},
		{"2:", modelOf([]int{3, 2}), modelOf([]int{1, 3}), [][]int{{0, 0, 0}, {3, 1}}, nil, nil},
		{"2:", modelOf([]int{3, 2}), modelOf([]int{1, 3}), [][]int{{0, 0, -1}, {2, 1}}, nil, nil},
		{"2:", modelOf([]int{3, 2}), modelOf([]int{1, 3}), [][]int{{2, 1}, {0, 0, 0}}, nil, nil},
	} {
		kernel, image := checkKernel(t, leading{sigOf(c.s), c.a, c.b, c.h})
		wantRows(t, kernel, c.kernel, c)
		wantSets(t, image, c.image, c)
	}
}

// Rows that are no map of models, as they do not fit them, as operations do not go along, or as there are no models, lead no values to one, and to none.
func TestRowsThatAreNoMap(t *testing.T) {
	r := rand.New(rand.NewSource(99))
	many := 0
	none := func(x leading) {
		t.Helper()
		wantRows(t, impl.KernelOf(x.s, x.a, x.b, x.h), nil, x)
		wantSets(t, impl.ImageOf(x.s, x.a, x.b, x.h), nil, x)
	}
	for _, c := range settings() {
		for _, x := range someLeadings(r, c.s, 2) {
			for _, wrong := range wrongRows(x.h, x.b.Sizes) {
				none(leading{x.s, x.a, x.b, wrong})
			}
			for _, bad := range badModels(x.s, x.a) {
				none(leading{x.s, bad, x.b, x.h})
			}
			for _, bad := range badModels(x.s, x.b) {
				none(leading{x.s, x.a, bad, x.h})
			}
			for sort, row := range x.h {
				other := slices.Clone(row)
				other[r.Intn(len(other))] = r.Intn(x.b.Sizes[sort])
				changed := leading{x.s, x.a, x.b, withRow(x.h, sort, other)}
				if !homByHand(x.s, x.a, x.b, changed.h) {
					none(changed)
					many++
				}
			}
		}
	}
	for _, bad := range invalidSigs() {
		one := oneValue(bad)
		none(leading{bad, one, one, zeroRows(one)})
		none(leading{s: bad})
		none(leading{bad, oneValue(sigOf("1:")), oneValue(sigOf("1:")), [][]int{{0}}})
	}
	if many < 100 {
		t.Fatal(many)
	}
}
