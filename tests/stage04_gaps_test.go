package tests

import (
	"math"
	"slices"
	"testing"

	"loop.example/g00595/impl"
)

// Promise 4: gaps and small elements divide the numbers below the conductor.

// gapFacts is what chapter 4 says of a semigroup, except for single elements.
type gapFacts struct {
	gaps, small                 []int
	frobenius, genus, conductor int
}

// gapFactsByText follows the text of the document; no gap of a semigroup is
// beyond 199.
func gapFactsByText(gens []int) gapFacts {
	facts := gapFacts{frobenius: -1}
	sums := searchedSums(gens, 300)
	for n, isSum := range sums {
		if !isSum {
			facts.gaps = append(facts.gaps, n)
			facts.frobenius = n
		}
	}
	facts.genus = len(facts.gaps)
	facts.conductor = facts.frobenius + 1
	for n := 0; n < facts.conductor; n++ {
		if sums[n] {
			facts.small = append(facts.small, n)
		}
	}
	return facts
}

func gapFactsOf(s impl.Semigroup) gapFacts {
	return gapFacts{impl.Gaps(s), impl.SmallElements(s), impl.FrobeniusOf(s), impl.GenusOf(s), impl.ConductorOf(s)}
}

func (f gapFacts) equals(g gapFacts) bool {
	return slices.Equal(f.gaps, g.gaps) && slices.Equal(f.small, g.small) &&
		f.frobenius == g.frobenius && f.genus == g.genus && f.conductor == g.conductor
}

// elementsByText are the elements of a semigroup from 0 to most in ascending order.
func elementsByText(gens []int, most int) []int {
	var elements []int
	for n, isSum := range searchedSums(gens, most) {
		if isSum {
			elements = append(elements, n)
		}
	}
	return elements
}

// compareGapsWithText looks at all functions of chapter 4 for one semigroup.
func compareGapsWithText(t *testing.T, gens []int) {
	t.Helper()
	s := impl.Semigroup{Gens: gens}
	if got, want := gapFactsOf(s), gapFactsByText(gens); !got.equals(want) {
		t.Fatalf("the gaps, small elements, Frobenius number, genus and conductor of %d are %v; want %v", gens, got, want)
	}
	elements := elementsByText(gens, 500)
	for k := -3; k <= 210; k++ {
		want := -1
		if k >= 0 && k <= 200 {
			want = elements[k]
		}
		if got := impl.ElementAt(s, k); got != want {
			t.Fatalf("ElementAt(%d, %d) = %d; want %d", gens, k, got, want)
		}
	}
	for n := -3; n <= 270; n++ {
		want := -1
		if n <= 200 {
			want = slices.Index(elements, n)
		}
		if got := impl.IndexOfElement(s, n); got != want {
			t.Fatalf("IndexOfElement(%d, %d) = %d; want %d", gens, n, got, want)
		}
	}
}

// limitGens are semigroups with a conductor of 198, 199 and 200.
func limitGens() map[int][][]int {
	return map[int][][]int{
		198: {{7, 34}},
		199: {{17, 23, 54}},
		200: {{5, 51}, {9, 26}, {12, 20, 57}},
	}
}

func TestGapFacts(t *testing.T) {
	cases := []struct {
		gens []int
		want gapFacts
	}{
		// The semigroup without gaps, and those of one gap and of two.
		{[]int{1}, gapFacts{nil, nil, -1, 0, 0}},
		{[]int{2, 3}, gapFacts{[]int{1}, []int{0}, 1, 1, 2}},
		{[]int{2, 5}, gapFacts{[]int{1, 3}, []int{0, 2}, 3, 2, 4}},
		{[]int{3, 4, 5}, gapFacts{[]int{1, 2}, []int{0}, 2, 2, 3}},
		{[]int{3, 5}, gapFacts{[]int{1, 2, 4, 7}, []int{0, 3, 5, 6}, 7, 4, 8}},
		{[]int{3, 5, 7}, gapFacts{[]int{1, 2, 4}, []int{0, 3}, 4, 3, 5}},
		{[]int{4, 6, 9}, gapFacts{[]int{1, 2, 3, 5, 7, 11}, []int{0, 4, 6, 8, 9, 10}, 11, 6, 12}},
		{numbersFrom(12, 23), gapFacts{numbersFrom(1, 11), []int{0}, 11, 11, 12}},
		{[]int{6, 9, 20}, gapFacts{
			[]int{1, 2, 3, 4, 5, 7, 8, 10, 11, 13, 14, 16, 17, 19, 22, 23, 25, 28, 31, 34, 37, 43},
			[]int{0, 6, 9, 12, 15, 18, 20, 21, 24, 26, 27, 29, 30, 32, 33, 35, 36, 38, 39, 40, 41, 42},
			43, 22, 44,
		}},
	}
	for _, c := range cases {
		if got := gapFactsOf(impl.Semigroup{Gens: c.gens}); !got.equals(c.want) {
			t.Errorf("the gaps, small elements, Frobenius number, genus and conductor of %d are %v; want %v", c.gens, got, c.want)
		}
	}
}

func TestElementAt(t *testing.T) {
	cases := []struct {
		gens    []int
		k, want int
	}{
		{[]int{3, 5}, 0, 0},
		{[]int{3, 5}, 1, 3},
		{[]int{3, 5}, 2, 5},
		{[]int{3, 5}, 3, 6},
		{[]int{3, 5}, 4, 8},
		{[]int{3, 5}, 5, 9},
		{[]int{3, 5}, 199, 203},
		{[]int{3, 5}, 200, 204},
		{[]int{3, 5}, 201, -1},
		{[]int{3, 5}, -1, -1},
		{[]int{3, 5}, math.MinInt, -1},
		{[]int{3, 5}, math.MaxInt, -1},
		{[]int{1}, 0, 0},
		{[]int{1}, 5, 5},
		{[]int{1}, 200, 200},
		{[]int{1}, 201, -1},
		{[]int{1}, -1, -1},
		{[]int{1}, math.MinInt, -1},
		{[]int{1}, math.MaxInt, -1},
		{[]int{2, 3}, 0, 0},
		{[]int{2, 3}, 1, 2},
		{[]int{2, 3}, 200, 201},
		// 100 gaps, of which the greatest is 199.
		{[]int{5, 51}, 99, 198},
		{[]int{5, 51}, 100, 200},
		{[]int{5, 51}, 200, 300},
		{[]int{5, 51}, 201, -1},
	}
	for _, c := range cases {
		if got := impl.ElementAt(impl.Semigroup{Gens: c.gens}, c.k); got != c.want {
			t.Errorf("ElementAt(%d, %d) = %d; want %d", c.gens, c.k, got, c.want)
		}
	}
}

func TestIndexOfElement(t *testing.T) {
	cases := []struct {
		gens    []int
		n, want int
	}{
		{[]int{3, 5}, 0, 0},
		{[]int{3, 5}, 1, -1},
		{[]int{3, 5}, 3, 1},
		{[]int{3, 5}, 4, -1},
		{[]int{3, 5}, 6, 3},
		{[]int{3, 5}, 7, -1},
		{[]int{3, 5}, 8, 4},
		{[]int{3, 5}, 9, 5},
		{[]int{3, 5}, 199, 195},
		{[]int{3, 5}, 200, 196},
		{[]int{3, 5}, 201, -1},
		{[]int{3, 5}, -1, -1},
		{[]int{3, 5}, -3, -1},
		{[]int{3, 5}, math.MinInt, -1},
		{[]int{3, 5}, math.MaxInt, -1},
		{[]int{1}, 0, 0},
		{[]int{1}, 1, 1},
		{[]int{1}, 200, 200},
		{[]int{1}, 201, -1},
		{[]int{1}, -1, -1},
		{[]int{1}, math.MinInt, -1},
		{[]int{1}, math.MaxInt, -1},
		{[]int{2, 3}, 1, -1},
		{[]int{2, 3}, 2, 1},
		{[]int{5, 51}, 198, 99},
		{[]int{5, 51}, 199, -1},
		{[]int{5, 51}, 200, 100},
		{[]int{5, 51}, 201, -1},
	}
	for _, c := range cases {
		if got := impl.IndexOfElement(impl.Semigroup{Gens: c.gens}, c.n); got != c.want {
			t.Errorf("IndexOfElement(%d, %d) = %d; want %d", c.gens, c.n, got, c.want)
		}
	}
}

func TestGapsOfSomeSemigroups(t *testing.T) {
	for _, gens := range validGens() {
		compareGapsWithText(t, gens)
	}
}

func TestGapsAtMaxConductor(t *testing.T) {
	for conductor, lists := range limitGens() {
		for _, gens := range lists {
			if got := impl.ConductorOf(impl.Semigroup{Gens: gens}); got != conductor {
				t.Errorf("ConductorOf(%d) = %d; want %d", gens, got, conductor)
			}
			compareGapsWithText(t, gens)
		}
	}
}

// TestGapsOfSubsets takes all semigroups with generators up to 11.
func TestGapsOfSubsets(t *testing.T) {
	count := 0
	for set := range 1 << 11 {
		var list []int
		for g := 1; g <= 11; g++ {
			if set>>(g-1)&1 == 1 {
				list = append(list, g)
			}
		}
		if isSemigroupByText(list) {
			count++
			compareGapsWithText(t, list)
		}
	}
	if count < 50 {
		t.Errorf("the test itself is wrong: only %d semigroups", count)
	}
}

// TestGapsOfPairs uses the formulas for two generators.
func TestGapsOfPairs(t *testing.T) {
	for a := 2; a <= 60; a++ {
		for b := a + 1; b <= 60; b++ {
			s := impl.Semigroup{Gens: []int{a, b}}
			want := gapFacts{frobenius: a*b - a - b, genus: (a - 1) * (b - 1) / 2}
			if impl.GcdOf(a, b) != 1 || want.frobenius >= 200 {
				want = gapFacts{frobenius: -1, genus: -1}
			}
			if f, g, c := impl.FrobeniusOf(s), impl.GenusOf(s), impl.ConductorOf(s); f != want.frobenius || g != want.genus || c != want.frobenius+1 {
				t.Fatalf("FrobeniusOf, GenusOf and ConductorOf of %d and %d are %d, %d and %d", a, b, f, g, c)
			}
		}
	}
}

// TestGapsAndSmallElementsDivide is the promise itself.
func TestGapsAndSmallElementsDivide(t *testing.T) {
	for _, gens := range append(validGens(), limitGens()[199]...) {
		s := impl.Semigroup{Gens: gens}
		gaps, small := impl.Gaps(s), impl.SmallElements(s)
		both := slices.Concat(gaps, small)
		slices.Sort(both)
		if !slices.Equal(both, numbersFrom(0, impl.ConductorOf(s)-1)) {
			t.Errorf("the gaps %d and small elements %d of %d do not divide the numbers below %d", gaps, small, gens, impl.ConductorOf(s))
		}
		if slices.ContainsFunc(gaps, func(n int) bool { return impl.Contains(s, n) }) {
			t.Errorf("a gap of %d is an element", gens)
		}
		if slices.ContainsFunc(small, func(n int) bool { return !impl.Contains(s, n) }) {
			t.Errorf("a small element of %d is none", gens)
		}
		if !impl.IsAscending(gaps) || !impl.IsAscending(small) {
			t.Errorf("the gaps %d or small elements %d of %d are not in ascending order", gaps, small, gens)
		}
	}
}

// TestElementsAndIndices holds both directions against each other.
func TestElementsAndIndices(t *testing.T) {
	for _, gens := range validGens() {
		s := impl.Semigroup{Gens: gens}
		for n := range 201 {
			k := impl.IndexOfElement(s, n)
			if impl.Contains(s, n) != (k >= 0) || k >= 0 && impl.ElementAt(s, k) != n {
				t.Errorf("IndexOfElement(%d, %d) = %d", gens, n, k)
			}
		}
		conductor, genus := impl.ConductorOf(s), impl.GenusOf(s)
		for _, n := range []int{conductor, conductor + 1} {
			if got := impl.IndexOfElement(s, n); n <= 200 && got != n-genus {
				t.Errorf("IndexOfElement(%d, %d) = %d; want %d", gens, n, got, n-genus)
			}
		}
		if got := impl.IndexOfElement(s, conductor-1); got != -1 {
			t.Errorf("IndexOfElement(%d, %d) = %d; want -1", gens, conductor-1, got)
		}
	}
}

func TestGapsOfNoSemigroup(t *testing.T) {
	none := gapFacts{frobenius: -1, genus: -1, conductor: 0}
	for _, gens := range invalidGens() {
		s := impl.Semigroup{Gens: gens}
		if got := gapFactsOf(s); !got.equals(none) {
			t.Errorf("the gaps, small elements, Frobenius number, genus and conductor of %d, which is no semigroup, are %v", gens, got)
		}
		for _, n := range []int{math.MinInt, -1, 0, 1, 3, 5, 60, 199, 200, 201, math.MaxInt} {
			if k := impl.ElementAt(s, n); k != -1 {
				t.Errorf("ElementAt(%d, %d) = %d of no semigroup", gens, n, k)
			}
			if k := impl.IndexOfElement(s, n); k != -1 {
				t.Errorf("IndexOfElement(%d, %d) = %d of no semigroup", gens, n, k)
			}
		}
	}
	if got := gapFactsOf(impl.Semigroup{}); !got.equals(none) {
		t.Errorf("the gap facts of the zero Semigroup are %v", got)
	}
}

func gapCalls() map[string]func(s impl.Semigroup) []int {
	return map[string]func(s impl.Semigroup) []int{
		"Gaps":           impl.Gaps,
		"SmallElements":  impl.SmallElements,
		"FrobeniusOf":    func(s impl.Semigroup) []int { impl.FrobeniusOf(s); return nil },
		"GenusOf":        func(s impl.Semigroup) []int { impl.GenusOf(s); return nil },
		"ConductorOf":    func(s impl.Semigroup) []int { impl.ConductorOf(s); return nil },
		"ElementAt":      func(s impl.Semigroup) []int { impl.ElementAt(s, 7); impl.ElementAt(s, -1); return nil },
		"IndexOfElement": func(s impl.Semigroup) []int { impl.IndexOfElement(s, 7); impl.IndexOfElement(s, 201); return nil },
	}
}

func TestGapCallsLeaveGens(t *testing.T) {
	for name, call := range gapCalls() {
		for _, gens := range append(validGens(), invalidGens()...) {
			g := guard(gens)
			call(impl.Semigroup{Gens: g.list})
			g.check(t, name, gens)
		}
	}
}

func TestGapsAreNewMemory(t *testing.T) {
	for name, call := range gapCalls() {
		for _, gens := range validGens() {
			g := guard(gens)
			s := impl.Semigroup{Gens: g.list}
			first := call(s)
			want := slices.Clone(first)
			second := call(s)
			scribble(first)
			g.check(t, name+", or a change of its result,", gens)
			third := call(s)
			scribble(g.whole)
			if !slices.Equal(second, want) || !slices.Equal(third, want) {
				t.Errorf("%s of %d gives %d and %d after others were changed; want %d", name, gens, second, third, want)
			}
		}
	}
}
