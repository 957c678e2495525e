package tests

import (
	"math"
	"slices"
	"testing"

	"loop.example/g00595/impl"
)

// Promise 3: the sum of two elements is an element.

// searchedSums finds the sums of gens up to most by going on from each sum that
// has been found, without a look at the program.
func searchedSums(gens []int, most int) []bool {
	found := make([]bool, most+1)
	found[0] = true
	open := []int{0}
	for len(open) > 0 {
		n := open[len(open)-1]
		open = open[:len(open)-1]
		for _, g := range gens {
			if next := n + g; next <= most && !found[next] {
				found[next] = true
				open = append(open, next)
			}
		}
	}
	return found
}

// areGens reports whether a list has 1 to most numbers from 1 to 60.
func areGens(list []int, most int) bool {
	return len(list) >= 1 && len(list) <= most && !slices.ContainsFunc(list, func(g int) bool { return g < 1 || g > 60 })
}

// isSumOfOthers tells whether g is a sum of the numbers of list that differ from it.
func isSumOfOthers(list []int, g int) bool {
	others := slices.DeleteFunc(slices.Clone(list), func(n int) bool { return n == g })
	return searchedSums(others, g)[g]
}

// isSemigroupByText follows the text of the document, condition by condition.
// No list of such numbers with the divisor 1 has a non-sum beyond 3600.
func isSemigroupByText(gens []int) bool {
	if !areGens(gens, 12) {
		return false
	}
	for i := 1; i < len(gens); i++ {
		if gens[i] <= gens[i-1] {
			return false
		}
	}
	for _, g := range gens {
		if isSumOfOthers(gens, g) {
			return false
		}
	}
	return !slices.Contains(searchedSums(gens, 3700)[200:], false)
}

func fromGensByText(list []int) ([]int, bool) {
	if !areGens(list, 20) {
		return nil, false
	}
	set := map[int]bool{}
	for _, g := range list {
		if !isSumOfOthers(list, g) {
			set[g] = true
		}
	}
	gens := inOrder(set)
	if !isSemigroupByText(gens) {
		return nil, false
	}
	return gens, true
}

// numbersFrom returns the numbers from first to last.
func numbersFrom(first int, last int) []int {
	var list []int
	for n := first; n <= last; n++ {
		list = append(list, n)
	}
	return list
}

// validGens are the Gens of some semigroups, those at the limits included.
func validGens() [][]int {
	return [][]int{
		{1}, {2, 3}, {2, 59}, {3, 4, 5}, {3, 5}, {3, 5, 7}, {3, 59}, {4, 5, 6, 7}, {4, 6, 9}, {4, 6, 59}, {5, 7, 9, 11},
		{6, 9, 20}, {6, 10, 15}, {7, 34}, {5, 51}, {9, 26}, {7, 17, 60}, {17, 23, 54}, {12, 20, 57}, {10, 11, 12, 13}, {20, 27, 33, 45},
		numbersFrom(12, 23), numbersFrom(11, 21), numbersFrom(45, 56), {30, 31, 33, 37, 45, 52, 56, 58, 59},
	}
}

// invalidGens are the Gens of no semigroup.
func invalidGens() [][]int {
	return [][]int{
		nil,
		{},
		// Numbers beyond the limits.
		{0}, {-1}, {61}, {math.MinInt}, {math.MaxInt}, {0, 1}, {-1, 1}, {-3, 5, 7}, {math.MinInt, 1}, {0, 2, 3},
		{1, 61}, {2, 61}, {2, 3, 61}, {60, 61}, {2, math.MaxInt}, {1 << 32, 1<<32 + 1}, {1<<32 + 1},
		// Not strictly ascending.
		{5, 3}, {3, 2}, {1, 1}, {2, 3, 3}, {2, 2, 3}, {4, 9, 6}, {6, 4, 9}, {9, 6, 4}, {20, 9, 6},
		// One of them is a sum of the others.
		{1, 2}, {1, 60}, {3, 5, 8}, {3, 5, 6}, {2, 3, 60}, {2, 3, 4}, {4, 6, 9, 10}, {4, 6, 9, 19}, {5, 7, 9, 11, 60}, {20, 27, 33, 47}, {10, 11, 12, 13, 33},
		// A common divisor.
		{2}, {60}, {2, 4}, {4, 6}, {6, 9}, {6, 10, 14}, {10, 15, 25}, {57, 60}, {14, 21, 49},
		// More than 12.
		numbersFrom(13, 25), numbersFrom(14, 26), numbersFrom(40, 52), numbersFrom(20, 39), numbersFrom(20, 40), numbersFrom(30, 59), numbersFrom(1, 60),
		// The greatest non-sum is 200, 201, 202, 203, 229, 249 and so on up to 3421.
		{19, 23, 52}, {10, 15, 49}, {15, 23, 31}, {5, 52}, {13, 18}, numbersFrom(46, 57), numbersFrom(50, 60), {30, 31}, {58, 59}, {59, 60},
	}
}

func TestSemigroupLimits(t *testing.T) {
	if impl.MaxGens != 12 || impl.MaxGen != 60 || impl.MaxConductor != 200 {
		t.Errorf("MaxGens = %d, MaxGen = %d, MaxConductor = %d", impl.MaxGens, impl.MaxGen, impl.MaxConductor)
	}
}

func TestGenerates(t *testing.T) {
	cases := []struct {
		gens []int
		n    int
		want bool
	}{
		{[]int{6, 9}, 15, true},
		{[]int{6, 9}, 3, false},
		{[]int{6, 9}, 16, false},
		{[]int{9, 6}, 15, true},
		{[]int{9, 6, 9, 6}, 3, false},
		{[]int{20, 6, 9}, 43, false},
		{[]int{20, 6, 9}, 44, true},
		{[]int{5}, 0, true},
		{[]int{5}, 5, true},
		{[]int{5}, 6, false},
		{[]int{5}, 4, false},
		{[]int{5}, 3595, true},
		{[]int{5}, 3600, true},
		{[]int{5}, 3601, false},
		{[]int{5}, 1000000, true},
		{[]int{5}, 999999, false},
		{[]int{1}, 0, true},
		{[]int{1}, 1, true},
		{[]int{1}, 1000000, true},
		{[]int{1}, 1000001, false},
		{[]int{1}, -1, false},
		{[]int{1}, math.MinInt, false},
		{[]int{1}, math.MaxInt, false},
		{[]int{60}, 59, false},
		{[]int{60}, 60, true},
		{[]int{60}, 61, false},
		{[]int{60}, 999960, true},
		{[]int{60}, 1000000, false},
		{[]int{59, 60}, 3421, false},
		{[]int{59, 60}, 3422, true},
		{[]int{60, 59}, 3480, true},
		{[]int{59, 60}, 1000000, true},
		{[]int{59, 60}, 1000001, false},
		{[]int{58, 60}, 1622, false},
		{[]int{58, 60}, 1624, true},
		{[]int{58, 60}, 999999, false},
		{[]int{58, 60}, 1000000, true},
		{[]int{6, 9, 9, 6}, 999999, true},
		{[]int{6, 9}, 1000000, false},
		{[]int{6, 9}, 1000002, false},
		{[]int{3}, -3, false},
		{[]int{3, 5}, math.MinInt, false},
		{[]int{3, 5}, math.MaxInt, false},
		{[]int{3, 5}, 1 << 32, false},
		// Invalid generators.
		{nil, 0, false},
		{[]int{}, 0, false},
		{nil, 5, false},
		{[]int{0}, 0, false},
		{[]int{0, 1}, 1, false},
		{[]int{1, 0}, 1, false},
		{[]int{-1}, 0, false},
		{[]int{3, -1}, 3, false},
		{[]int{61}, 61, false},
		{[]int{61}, 0, false},
		{[]int{1, 61}, 1, false},
		{[]int{61, 1}, 999999, false},
		{[]int{math.MinInt}, 0, false},
		{[]int{1, math.MinInt}, 1, false},
		{[]int{1, math.MaxInt}, 1, false},
		{[]int{1 << 32}, 0, false},
		{[]int{0}, -1, false},
	}
	for _, c := range cases {
		if got := impl.Generates(c.gens, c.n); got != c.want {
			t.Errorf("Generates(%d, %d) = %v; want %v", c.gens, c.n, got, c.want)
		}
	}
}

// TestGeneratesCounts looks at the limits of the number of generators, where
// repeated ones count too.
func TestGeneratesCounts(t *testing.T) {
	for count := 1; count <= 25; count++ {
		for _, gens := range [][]int{slices.Repeat([]int{7}, count), numbersFrom(30, 29+count), append(slices.Repeat([]int{7}, count-1), 5)} {
			sums := searchedSums(gens, 4000)
			for _, n := range []int{0, 1, 5, 7, 23, 24, 30, 59, 60, 3600, 3605, 4000} {
				if got, want := impl.Generates(gens, n), count <= 20 && sums[n]; got != want {
					t.Errorf("Generates(%d, %d) = %v; want %v", gens, n, got, want)
				}
			}
		}
	}
}

// TestGeneratesOfShortLists takes the lists in every order, with repetitions
// and with common divisors.
func TestGeneratesOfShortLists(t *testing.T) {
	for _, gens := range shortLists([]int{2, 3, 6, 10, 15, 59, 60}, 3) {
		sums := searchedSums(gens, 400)
		for n, want := range sums {
			want = want && len(gens) > 0
			if got := impl.Generates(gens, n); got != want {
				t.Fatalf("Generates(%d, %d) = %v; want %v", gens, n, got, want)
			}
		}
	}
	for _, gens := range validGens() {
		backwards := slices.Clone(gens)
		slices.Reverse(backwards)
		for n, want := range searchedSums(gens, 300) {
			if impl.Generates(gens, n) != want || impl.Generates(backwards, n) != want {
				t.Fatalf("Generates(%d, %d) or of the list backwards is not %v", gens, n, want)
			}
		}
	}
}

// TestGeneratesOfPairs looks at the greatest multiple of the common divisor
// that is no sum of two numbers, for which there is a formula.
func TestGeneratesOfPairs(t *testing.T) {
	for a := 1; a <= 60; a++ {
		for b := a; b <= 60; b++ {
			d := impl.GcdOf(a, b)
			greatest := a*b/d - a - b
			if greatest >= 0 && impl.Generates([]int{a, b}, greatest) {
				t.Fatalf("Generates finds %d as a sum of %d and %d", greatest, a, b)
			}
			for n := greatest + 1; n <= greatest+2*d; n++ {
				if want := n%d == 0; impl.Generates([]int{b, a}, n) != want {
					t.Fatalf("Generates([%d %d], %d) is not %v", b, a, n, want)
				}
			}
			for _, n := range []int{3421, 3422, 3599, 3600, 3601, 999999, 1000000} {
				if want := n%d == 0; n > greatest && impl.Generates([]int{a, b}, n) != want {
					t.Fatalf("Generates([%d %d], %d) is not %v", a, b, n, want)
				}
			}
		}
	}
}

// TestGeneratesUpTo3700 takes lists of which the greatest non-sums are far off.
func TestGeneratesUpTo3700(t *testing.T) {
	for _, gens := range [][]int{{59, 60}, {58, 59}, {60}, {1}, {56, 60}, {41, 60}, {42, 60, 57}, {60, 50, 36, 45}} {
		for n, want := range searchedSums(gens, 3700) {
			if got := impl.Generates(gens, n); got != want {
				t.Fatalf("Generates(%d, %d) = %v; want %v", gens, n, got, want)
			}
		}
	}
}

func TestIsSemigroup(t *testing.T) {
	for _, gens := range validGens() {
		if !isSemigroupByText(gens) {
			t.Fatalf("the test itself is wrong: %d", gens)
		}
		if !impl.IsSemigroup(impl.Semigroup{Gens: gens}) {
			t.Errorf("IsSemigroup of %d is false", gens)
		}
	}
	for _, gens := range invalidGens() {
		if isSemigroupByText(gens) {
			t.Fatalf("the test itself is wrong: %d", gens)
		}
		if impl.IsSemigroup(impl.Semigroup{Gens: gens}) {
			t.Errorf("IsSemigroup of %d is true", gens)
		}
	}
	if impl.IsSemigroup(impl.Semigroup{}) {
		t.Error("the zero Semigroup is one")
	}
}

// TestGreatestNonSum takes semigroups just below MaxConductor and lists just
// at and beyond it.
func TestGreatestNonSum(t *testing.T) {
	cases := []struct {
		gens     []int
		greatest int
	}{
		{[]int{7, 34}, 197},
		{[]int{17, 23, 54}, 198},
		{[]int{5, 51}, 199},
		{[]int{9, 26}, 199},
		{[]int{12, 20, 57}, 199},
		{[]int{19, 23, 52}, 200},
		{[]int{10, 15, 49}, 201},
		{[]int{15, 23, 31}, 202},
		{[]int{5, 52}, 203},
		{numbersFrom(45, 56), 179},
		{numbersFrom(46, 57), 229},
	}
	for _, c := range cases {
		s := impl.Semigroup{Gens: c.gens}
		want := c.greatest <= 199
		if got := impl.IsSemigroup(s); got != want {
			t.Errorf("IsSemigroup of %d = %v; want %v", c.gens, got, want)
		}
		if made, ok := impl.FromGens(c.gens); ok != want || ok && !slices.Equal(made.Gens, c.gens) {
			t.Errorf("FromGens(%d) = %d, %v; want %v", c.gens, made.Gens, ok, want)
		}
		if impl.Contains(s, c.greatest) {
			t.Errorf("%d is an element of %d", c.greatest, c.gens)
		}
		if impl.Generates(c.gens, c.greatest) {
			t.Errorf("%d is generated by %d", c.greatest, c.gens)
		}
		for n := c.greatest + 1; n <= c.greatest+70; n++ {
			if !impl.Generates(c.gens, n) || impl.Contains(s, n) != want {
				t.Errorf("%d is not generated by %d, or Contains is not %v", n, c.gens, want)
			}
		}
	}
}

// TestSubsets compares everything with the document's text for all lists of
// different numbers up to 11.
func TestSubsets(t *testing.T) {
	for set := range 1 << 11 {
		var list []int
		for g := 1; g <= 11; g++ {
			if set>>(g-1)&1 == 1 {
				list = append(list, g)
			}
		}
		compareWithText(t, list)
		slices.Reverse(list)
		compareWithText(t, list)
	}
}

// TestShortGens takes lists in any order, with repetitions and invalid numbers.
func TestShortGens(t *testing.T) {
	for _, list := range shortLists([]int{-3, 0, 1, 2, 3, 5, 6, 60, 61}, 3) {
		compareWithText(t, list)
	}
	for _, list := range shortLists([]int{2, 4, 5, 7, 9, 58, 60}, 4) {
		compareWithText(t, list)
	}
}

// TestLongGens takes lists of 1 to 24 numbers in steps of several widths.
func TestLongGens(t *testing.T) {
	for count := 1; count <= 24; count++ {
		for first := 1; first <= 60; first += 3 {
			for _, step := range []int{0, 1, 2, 7, 23, 59} {
				var list []int
				for i := range count {
					list = append(list, (first-1+i*step)%60+1)
				}
				compareWithText(t, list)
			}
		}
	}
}

func compareWithText(t *testing.T, list []int) {
	t.Helper()
	if got, want := impl.IsSemigroup(impl.Semigroup{Gens: list}), isSemigroupByText(list); got != want {
		t.Fatalf("IsSemigroup of %d = %v; want %v", list, got, want)
	}
	want, wantOK := fromGensByText(list)
	if got, ok := impl.FromGens(list); !slices.Equal(got.Gens, want) || ok != wantOK {
		t.Fatalf("FromGens(%d) = %d, %v; want %d, %v", list, got.Gens, ok, want, wantOK)
	}
}

func TestContains(t *testing.T) {
	for _, gens := range validGens() {
		s := impl.Semigroup{Gens: gens}
		for n, want := range searchedSums(gens, 700) {
			if got := impl.Contains(s, n); got != want {
				t.Errorf("Contains(%d, %d) = %v; want %v", gens, n, got, want)
			}
		}
		for _, n := range []int{1000000, 1000001, 1 << 32, math.MaxInt - 1, math.MaxInt} {
			if !impl.Contains(s, n) {
				t.Errorf("%d is no element of %d", n, gens)
			}
		}
		for n := -300; n < 0; n++ {
			if impl.Contains(s, n) {
				t.Errorf("%d is an element of %d", n, gens)
			}
		}
		for _, n := range []int{math.MinInt, math.MinInt + 200, -1 << 32, -1000000} {
			if impl.Contains(s, n) {
				t.Errorf("%d is an element of %d", n, gens)
			}
		}
	}
}

func TestContainsOfNoSemigroup(t *testing.T) {
	for _, gens := range invalidGens() {
		for _, n := range []int{math.MinInt, -1, 0, 1, 3, 5, 60, 61, 199, 200, 201, 1000000, math.MaxInt} {
			if impl.Contains(impl.Semigroup{Gens: gens}, n) {
				t.Errorf("%d is an element of %d, which is no semigroup", n, gens)
			}
		}
	}
}

func TestSumOfElementsIsElement(t *testing.T) {
	for _, gens := range validGens() {
		s := impl.Semigroup{Gens: gens}
		var elements []int
		for n := -10; n <= 260; n++ {
			if impl.Contains(s, n) {
				elements = append(elements, n)
			}
		}
		if len(elements) == 0 || elements[0] != 0 {
			t.Fatalf("the least element of %d is not 0", gens)
		}
		isElement := make([]bool, 521)
		for n := range isElement {
			isElement[n] = impl.Contains(s, n)
		}
		for _, x := range elements {
			for _, y := range elements {
				if !isElement[x+y] {
					t.Fatalf("%d and %d are elements of %d, and their sum is none", x, y, gens)
				}
			}
		}
	}
}

func TestFromGens(t *testing.T) {
	cases := []struct{ list, want []int }{
		{[]int{1}, []int{1}},
		{[]int{60, 1}, []int{1}},
		{[]int{1, 1, 1}, []int{1}},
		{numbersFrom(1, 20), []int{1}},
		{numbersFrom(2, 21), []int{2, 3}},
		{[]int{3, 5}, []int{3, 5}},
		{[]int{5, 3}, []int{3, 5}},
		{[]int{5, 3, 5, 3, 3}, []int{3, 5}},
		{[]int{9, 6, 4, 8, 4}, []int{4, 6, 9}},
		{[]int{20, 9, 6, 26, 29, 60}, []int{6, 9, 20}},
		{[]int{8, 3, 5}, []int{3, 5}},
		{[]int{3, 5, 7, 8}, []int{3, 5, 7}},
		{[]int{15, 10, 6}, []int{6, 10, 15}},
		{[]int{60, 59, 2}, []int{2, 59}},
		{[]int{1, 60}, []int{1}},
		{numbersFrom(12, 23), numbersFrom(12, 23)},
		{numbersFrom(12, 24), numbersFrom(12, 23)},
		{numbersFrom(12, 31), numbersFrom(12, 23)},
		{numbersFrom(45, 56), numbersFrom(45, 56)},
		{numbersFrom(11, 30), numbersFrom(11, 21)},
		{[]int{5, 51}, []int{5, 51}},
		{slices.Repeat([]int{3, 5}, 10), []int{3, 5}},
	}
	for _, c := range cases {
		if got, ok := impl.FromGens(c.list); !slices.Equal(got.Gens, c.want) || !ok {
			t.Errorf("FromGens(%d) = %d, %v; want %d, true", c.list, got.Gens, ok, c.want)
		}
	}
}

func TestFromGensRejects(t *testing.T) {
	lists := [][]int{
		nil, {}, {0}, {-1}, {61}, {math.MinInt}, {math.MaxInt}, {0, 1}, {1, 0}, {1, -1}, {1, 61}, {61, 1}, {3, 5, 61},
		{3, 5, math.MinInt}, {1 << 32, 3, 5}, {1<<32 + 1},
		{2}, {2, 2}, {60}, {2, 4}, {9, 6}, {60, 57}, {15, 10, 25, 5},
		{59, 60}, {60, 59}, {19, 23, 52}, {52, 5}, {46, 57, 59},
		numbersFrom(13, 25), numbersFrom(13, 32), numbersFrom(20, 39), numbersFrom(40, 59), numbersFrom(50, 60), numbersFrom(46, 57),
		slices.Repeat([]int{1}, 21), slices.Repeat([]int{3, 5, 7}, 7), numbersFrom(1, 21), numbersFrom(12, 32), numbersFrom(1, 60),
	}
	for _, list := range lists {
		if s, ok := impl.FromGens(list); len(s.Gens) != 0 || ok {
			t.Errorf("FromGens(%d) = %d, %v; want the zero Semigroup and false", list, s.Gens, ok)
		}
	}
}

// TestFromGensOfItsGens holds the semigroup against the list that it is made of.
func TestFromGensOfItsGens(t *testing.T) {
	for _, gens := range validGens() {
		list := append([]int{gens[len(gens)-1]}, gens...)
		s, ok := impl.FromGens(list)
		if !ok || !impl.EqualSemigroup(s, impl.Semigroup{Gens: gens}) || !impl.IsSemigroup(s) {
			t.Errorf("FromGens(%d) = %d, %v", list, s.Gens, ok)
		}
		for n := range 300 {
			if impl.Contains(s, n) != impl.Generates(list, n) {
				t.Errorf("Contains and Generates of %d differ for %d", gens, n)
			}
		}
	}
}

func TestMultiplicityAndDimension(t *testing.T) {
	for _, gens := range validGens() {
		s := impl.Semigroup{Gens: gens}
		if m, d := impl.MultiplicityOf(s), impl.DimensionOf(s); m != gens[0] || d != len(gens) {
			t.Errorf("MultiplicityOf, DimensionOf of %d = %d, %d", gens, m, d)
		}
	}
	for _, gens := range invalidGens() {
		s := impl.Semigroup{Gens: gens}
		if m, d := impl.MultiplicityOf(s), impl.DimensionOf(s); m != 0 || d != 0 {
			t.Errorf("MultiplicityOf, DimensionOf of %d = %d, %d; want 0, 0", gens, m, d)
		}
	}
	if one := (impl.Semigroup{Gens: []int{1}}); impl.MultiplicityOf(one) != 1 || impl.DimensionOf(one) != 1 {
		t.Error("MultiplicityOf or DimensionOf of the semigroup of 1 is not 1")
	}
}

// TestEqualSemigroup compares the fields, of values that are no semigroups too.
func TestEqualSemigroup(t *testing.T) {
	lists := append(append([][]int{{3, 5}, {5, 3}, {3, 5, 8}, {3}, {3, 7}, {0}, {-1}, {math.MinInt}, {1}, {1, 1}}, validGens()...), invalidGens()...)
	for _, a := range lists {
		for _, b := range lists {
			x, y := impl.Semigroup{Gens: slices.Clone(a)}, impl.Semigroup{Gens: slices.Clone(b)}
			if got, want := impl.EqualSemigroup(x, y), impl.ListText(a) == impl.ListText(b); got != want {
				t.Errorf("EqualSemigroup(%d, %d) = %v", a, b, got)
			}
		}
	}
	if !impl.EqualSemigroup(impl.Semigroup{}, impl.Semigroup{Gens: []int{}}) {
		t.Error("nil and empty Gens differ")
	}
}

func semigroupCalls() map[string]func(list []int) {
	return map[string]func(list []int){
		"Generates":      func(list []int) { impl.Generates(list, 3); impl.Generates(list, 77); impl.Generates(list, 1000000) },
		"IsSemigroup":    func(list []int) { impl.IsSemigroup(impl.Semigroup{Gens: list}) },
		"Contains":       func(list []int) { impl.Contains(impl.Semigroup{Gens: list}, 7) },
		"FromGens":       func(list []int) { impl.FromGens(list) },
		"MultiplicityOf": func(list []int) { impl.MultiplicityOf(impl.Semigroup{Gens: list}) },
		"DimensionOf":    func(list []int) { impl.DimensionOf(impl.Semigroup{Gens: list}) },
		"EqualSemigroup": func(list []int) {
			impl.EqualSemigroup(impl.Semigroup{Gens: list}, impl.Semigroup{Gens: list})
			impl.EqualSemigroup(impl.Semigroup{Gens: list}, impl.Semigroup{Gens: []int{3, 5}})
		},
	}
}

func TestGensAreNotChanged(t *testing.T) {
	lists := append(append([][]int{{9, 6, 4, 8, 4}, {5, 3}, {3, 3, 5}, {8, 5, 3}}, validGens()...), invalidGens()...)
	for name, call := range semigroupCalls() {
		for _, list := range lists {
			g := guard(list)
			call(g.list)
			g.check(t, name, list)
		}
	}
}

func TestFromGensGivesNewMemory(t *testing.T) {
	for _, list := range append([][]int{{9, 6, 4, 8, 4}, {5, 3}, {3, 5, 8}}, validGens()...) {
		g := guard(list)
		first, _ := impl.FromGens(g.list)
		want := slices.Clone(first.Gens)
		second, _ := impl.FromGens(g.list)
		scribble(first.Gens)
		g.check(t, "FromGens, or a change of its result,", list)
		third, ok := impl.FromGens(g.list)
		scribble(g.whole)
		if !ok || !slices.Equal(second.Gens, want) || !slices.Equal(third.Gens, want) {
			t.Errorf("FromGens(%d) = %d and %d after others were changed", list, second.Gens, third.Gens)
		}
	}
}
