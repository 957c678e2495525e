package tests

import (
	"math"
	"slices"
	"testing"

	"loop.example/g00595/impl"
)

// Promise 15: the numerator reads the same backwards exactly if the semigroup is
// symmetric.

func numeratorByText(gens []int) []int {
	if !isSemigroupByText(gens) {
		return nil
	}
	isElement := searchedSums(gens, 300)
	list := []int{1}
	for n := 1; n <= gapFactsByText(gens).conductor; n++ {
		switch {
		case isElement[n] && !isElement[n-1]:
			list = append(list, 1)
		case !isElement[n] && isElement[n-1]:
			list = append(list, -1)
		default:
			list = append(list, 0)
		}
	}
	return list
}

// seriesByText adds up each sum from its start.
func seriesByText(list []int, n int) []int {
	if n < 0 || n > 1000 {
		return nil
	}
	var sums []int
	for count := 1; count <= n; count++ {
		sum := 0
		for i := 0; i < count && i < len(list); i++ {
			sum += list[i]
		}
		sums = append(sums, sum)
	}
	return sums
}

func isPalindromeByText(list []int) bool {
	backwards := slices.Clone(list)
	slices.Reverse(backwards)
	return slices.Equal(list, backwards)
}

// productByText finds each coefficient by itself.
func productByText(a []int, b []int) []int {
	if len(a) < 1 || len(a) > 500 || len(b) < 1 || len(b) > 500 {
		return nil
	}
	var product []int
	for power := range len(a) + len(b) - 1 {
		sum := 0
		for i := max(0, power-len(b)+1); i < len(a) && i <= power; i++ {
			sum += a[i] * b[power-i]
		}
		product = append(product, sum)
	}
	return product
}

// eulersByText returns EulerAt for the numbers from 0 to 1000, set by set.
func eulersByText(gens []int) []int {
	eulers := make([]int, 1001)
	if !isSemigroupByText(gens) {
		return eulers
	}
	isElement := searchedSums(gens, 1000)
	for set := range 1 << len(gens) {
		sum, sign := 0, 1
		for i, g := range gens {
			if set>>i&1 == 1 {
				sum += g
				sign = -sign
			}
		}
		for n := sum; n <= 1000; n++ {
			if isElement[n-sum] {
				eulers[n] += sign
			}
		}
	}
	return eulers
}

func eulerListByText(gens []int) []int {
	if !isSemigroupByText(gens) {
		return nil
	}
	length := gapFactsByText(gens).frobenius + 1
	for _, g := range gens {
		length += g
	}
	return eulersByText(gens)[:length]
}

func TestNumeratorOf(t *testing.T) {
	cases := []struct {
		gens, want []int
		same       bool
	}{
		// The semigroup without gaps.
		{[]int{1}, []int{1}, true},
		// Symmetric ones.
		{[]int{2, 3}, []int{1, -1, 1}, true},
		{[]int{2, 5}, []int{1, -1, 1, -1, 1}, true},
		{[]int{3, 4}, []int{1, -1, 0, 1, 0, -1, 1}, true},
		{[]int{3, 5}, []int{1, -1, 0, 1, -1, 1, 0, -1, 1}, true},
		{[]int{4, 6, 9}, []int{1, -1, 0, 0, 1, -1, 1, -1, 1, 0, 0, -1, 1}, true},
		{[]int{5, 6, 7, 8}, []int{1, -1, 0, 0, 0, 1, 0, 0, 0, -1, 1}, true},
		// Others.
		{[]int{3, 4, 5}, []int{1, -1, 0, 1}, false},
		{[]int{3, 5, 7}, []int{1, -1, 0, 1, -1, 1}, false},
		{[]int{4, 5, 6, 7}, []int{1, -1, 0, 0, 1}, false},
		{[]int{4, 5, 7}, []int{1, -1, 0, 0, 1, 0, -1, 1}, false},
		{[]int{3, 7, 8}, []int{1, -1, 0, 1, -1, 0, 1}, false},
		{numbersFrom(12, 23), slices.Concat([]int{1, -1}, make([]int, 10), []int{1}), false},
		// No semigroup.
		{nil, nil, true},
		{[]int{0}, nil, true},
		{[]int{2}, nil, true},
		{[]int{5, 3}, nil, true},
		{[]int{3, 5, 8}, nil, true},
		{[]int{2, 61}, nil, true},
	}
	for _, c := range cases {
		if byText := numeratorByText(c.gens); !slices.Equal(byText, c.want) || isPalindromeByText(c.want) != c.same {
			t.Errorf("the test itself is wrong: %d: %d", c.gens, byText)
		}
		got := impl.NumeratorOf(impl.Semigroup{Gens: c.gens})
		if !slices.Equal(got, c.want) || impl.IsPalindrome(got) != c.same {
			t.Errorf("NumeratorOf(%d) = %d, IsPalindrome of it is %v; want %d, %v", c.gens, got, impl.IsPalindrome(got), c.want, c.same)
		}
	}
}

// compareNumerator also holds the numerator against the symmetry, and its sums
// against the elements.
func compareNumerator(t *testing.T, gens []int) {
	t.Helper()
	s := impl.Semigroup{Gens: gens}
	got, want := impl.NumeratorOf(s), numeratorByText(gens)
	if !slices.Equal(got, want) {
		t.Fatalf("NumeratorOf(%d) = %d; want %d", gens, got, want)
	}
	if !isSemigroupByText(gens) {
		return
	}
	if facts := symmetryFactsByText(gens); impl.IsPalindrome(got) != facts.symmetric || impl.IsSymmetric(s) != facts.symmetric {
		t.Fatalf("%d is symmetric: %v; but NumeratorOf is %d", gens, facts.symmetric, got)
	}
	isElement := searchedSums(gens, 300)
	for n, sum := range impl.SeriesFrom(got, 301) {
		if (sum == 1) != isElement[n] || (sum == 0) == isElement[n] {
			t.Fatalf("SeriesFrom NumeratorOf(%d) has %d for %d", gens, sum, n)
		}
	}
}

func TestNumeratorOfSomeSemigroups(t *testing.T) {
	for _, gens := range append(factoredSemigroups(), invalidGens()...) {
		compareNumerator(t, gens)
	}
}

// TestNumeratorOfSubsets takes all lists of different numbers up to 12, those
// of no semigroup included.
func TestNumeratorOfSubsets(t *testing.T) {
	for set := range 1 << 12 {
		var list []int
		for g := 1; g <= 12; g++ {
			if set>>(g-1)&1 == 1 {
				list = append(list, g)
			}
		}
		compareNumerator(t, list)
	}
}

func TestNumeratorOfPairsAndTriples(t *testing.T) {
	for a := 2; a <= 15; a++ {
		for b := a + 1; b <= 60; b += 2 {
			compareNumerator(t, []int{a, b})
			for c := b + 1; c <= 60; c += 7 {
				compareNumerator(t, []int{a, b, c})
			}
		}
	}
}

func TestSeriesFrom(t *testing.T) {
	ones := slices.Repeat([]int{1}, 1100)
	cases := []struct {
		list []int
		n    int
		want []int
	}{
		{[]int{1, -1, 2}, 5, []int{1, 0, 2, 2, 2}},
		// n of 0, less than the length, the length and more.
		{[]int{1, -1, 2}, 0, nil},
		{[]int{1, -1, 2}, 1, []int{1}},
		{[]int{1, -1, 2}, 2, []int{1, 0}},
		{[]int{1, -1, 2}, 3, []int{1, 0, 2}},
		{[]int{1, -1, 2}, 4, []int{1, 0, 2, 2}},
		{[]int{-5, -6, -7}, 4, []int{-5, -11, -18, -18}},
		// One number and none.
		{[]int{7}, 0, nil},
		{[]int{7}, 1, []int{7}},
		{[]int{7}, 3, []int{7, 7, 7}},
		{nil, 0, nil},
		{nil, 1, []int{0}},
		{[]int{}, 4, []int{0, 0, 0, 0}},
		{nil, 1000, make([]int, 1000)},
		// 1000, one more and below zero.
		{[]int{1, -1, 2}, 1000, slices.Concat([]int{1, 0}, slices.Repeat([]int{2}, 998))},
		{ones, 1000, numbersFrom(1, 1000)},
		{ones, 999, numbersFrom(1, 999)},
		{ones[:1000], 1000, numbersFrom(1, 1000)},
		{ones, 1001, nil},
		{ones, 1100, nil},
		{[]int{1, -1, 2}, 1001, nil},
		{nil, 1001, nil},
		{ones, -1, nil},
		{nil, -1, nil},
		{ones, -1000, nil},
		{ones, 1<<32 + 3, nil},
		{ones, math.MinInt, nil},
		{ones, math.MaxInt, nil},
		// Sums that wrap around.
		{[]int{math.MaxInt, 1, 1}, 4, []int{math.MaxInt, math.MinInt, math.MinInt + 1, math.MinInt + 1}},
		{[]int{math.MinInt, -1}, 3, []int{math.MinInt, math.MaxInt, math.MaxInt}},
		{[]int{math.MinInt, math.MinInt}, 2, []int{math.MinInt, 0}},
	}
	for _, c := range cases {
		if byText := seriesByText(c.list, c.n); !slices.Equal(byText, c.want) {
			t.Errorf("the test itself is wrong: %d, %d: %d", c.list, c.n, byText)
		}
		if got := impl.SeriesFrom(c.list, c.n); !slices.Equal(got, c.want) {
			t.Errorf("SeriesFrom(%d, %d) = %d; want %d", c.list, c.n, got, c.want)
		}
	}
}

// seriesNumbers are numbers around the limits of chapter 15.
func seriesNumbers() []int {
	return append(numbersFrom(-2, 12), math.MinInt, math.MinInt+1, -1<<32, -1001, -1000, 499, 500, 501, 999, 1000, 1001, 1002, 2000, 1<<32, 1<<32+3, math.MaxInt-1, math.MaxInt)
}

func TestSeriesOfShortLists(t *testing.T) {
	for _, list := range shortLists([]int{-2, 0, 1, 3}, 5) {
		for _, n := range seriesNumbers() {
			if len(list) > 3 && n > 12 {
				continue
			}
			if got, want := impl.SeriesFrom(list, n), seriesByText(list, n); !slices.Equal(got, want) {
				t.Fatalf("SeriesFrom(%d, %d) = %d; want %d", list, n, got, want)
			}
		}
	}
}

func TestIsPalindrome(t *testing.T) {
	cases := []struct {
		list []int
		want bool
	}{
		{nil, true},
		{[]int{}, true},
		{[]int{0}, true},
		{[]int{-7}, true},
		{[]int{math.MinInt}, true},
		// An even and an odd length.
		{[]int{1, 1}, true},
		{[]int{1, 2}, false},
		{[]int{1, -1}, false},
		{[]int{1, 2, 1}, true},
		{[]int{1, 2, 2}, false},
		{[]int{2, 2, 1}, false},
		{[]int{1, 2, 2, 1}, true},
		{[]int{1, 2, 1, 2}, false},
		{[]int{1, 2, 3, 1}, false},
		{[]int{1, 2, 3, 2, 1}, true},
		{[]int{1, 2, 3, 4, 1}, false},
		{[]int{1, 2, 3, 2, 2}, false},
		{[]int{math.MinInt, math.MaxInt, math.MinInt}, true},
		{[]int{math.MinInt, math.MaxInt}, false},
		{make([]int, 5000), true},
		{append(make([]int, 5000), 1), false},
	}
	for _, c := range cases {
		if got := impl.IsPalindrome(c.list); got != c.want {
			t.Errorf("IsPalindrome(%d) = %v", c.list, got)
		}
	}
	for _, list := range shortLists([]int{0, 1, -1}, 7) {
		if got := impl.IsPalindrome(list); got != isPalindromeByText(list) {
			t.Errorf("IsPalindrome(%d) = %v", list, got)
		}
	}
}

// risingList returns count numbers of both signs.
func risingList(count int, step int) []int {
	var list []int
	for i := range count {
		list = append(list, (i*step+5)%23-11)
	}
	return list
}

func TestMultiplyLists(t *testing.T) {
	half := 1 << 32
	cases := []struct{ a, b, want []int }{
		{[]int{1, 1}, []int{1, -1}, []int{1, 0, -1}},
		{[]int{1, 2, 3}, []int{4, 5}, []int{4, 13, 22, 15}},
		{[]int{0, 1}, []int{0, 0, 2}, []int{0, 0, 0, 2}},
		// Zeros at the end stay.
		{[]int{1, 0}, []int{1, 0, 0}, []int{1, 0, 0, 0}},
		{[]int{0}, []int{1, 2, 3}, []int{0, 0, 0}},
		{[]int{0, 0}, []int{0, 0}, []int{0, 0, 0}},
		// One number and none.
		{[]int{3}, []int{5}, []int{15}},
		{[]int{3}, []int{1, 2, 3}, []int{3, 6, 9}},
		{[]int{1, 2, 3}, []int{-1}, []int{-1, -2, -3}},
		{nil, []int{1}, nil},
		{[]int{1}, nil, nil},
		{[]int{}, []int{}, nil},
		{nil, []int{1, 2, 3}, nil},
		{[]int{1, 2, 3}, []int{}, nil},
		// Products and sums that wrap around.
		{[]int{half}, []int{half}, []int{0}},
		{[]int{math.MaxInt}, []int{2}, []int{-2}},
		{[]int{math.MinInt}, []int{-1}, []int{math.MinInt}},
		{[]int{math.MinInt, 1}, []int{2, math.MinInt}, []int{0, 2, math.MinInt}},
		{[]int{math.MaxInt, 1}, []int{1, 1}, []int{math.MaxInt, math.MinInt, 1}},
		{[]int{math.MinInt, math.MinInt}, []int{1, 1}, []int{math.MinInt, 0, math.MinInt}},
		{[]int{half + 1}, []int{half + 1}, []int{2*half + 1}},
	}
	for _, c := range cases {
		if byText := productByText(c.a, c.b); !slices.Equal(byText, c.want) {
			t.Errorf("the test itself is wrong: %d, %d: %d", c.a, c.b, byText)
		}
		if got := impl.MultiplyLists(c.a, c.b); !slices.Equal(got, c.want) {
			t.Errorf("MultiplyLists(%d, %d) = %d; want %d", c.a, c.b, got, c.want)
		}
		if got := impl.MultiplyLists(c.b, c.a); !slices.Equal(got, c.want) {
			t.Errorf("MultiplyLists(%d, %d) = %d; want %d", c.b, c.a, got, c.want)
		}
	}
}

// TestMultiplyListsAtLimits takes lists of 499 numbers and more, in either
// place and in both.
func TestMultiplyListsAtLimits(t *testing.T) {
	for _, countA := range []int{0, 1, 2, 7, 499, 500, 501, 502, 3000} {
		for _, countB := range []int{0, 1, 2, 7, 499, 500, 501, 502, 3000} {
			a, b := risingList(countA, 7), risingList(countB, 10)
			got, want := impl.MultiplyLists(a, b), productByText(a, b)
			if !slices.Equal(got, want) {
				t.Fatalf("MultiplyLists of %d and %d numbers = %d; want %d", countA, countB, got, want)
			}
			valid := countA >= 1 && countA <= 500 && countB >= 1 && countB <= 500
			if valid && len(got) != countA+countB-1 || !valid && len(got) > 0 {
				t.Fatalf("MultiplyLists of %d and %d numbers gives %d", countA, countB, len(got))
			}
		}
	}
}

func TestMultiplyShortLists(t *testing.T) {
	lists := shortLists([]int{-1, 0, 2, 3}, 3)
	for _, a := range lists {
		for _, b := range lists {
			if got, want := impl.MultiplyLists(a, b), productByText(a, b); !slices.Equal(got, want) {
				t.Fatalf("MultiplyLists(%d, %d) = %d; want %d", a, b, got, want)
			}
		}
	}
}

func TestEulerAt(t *testing.T) {
	cases := []struct {
		gens    []int
		n, want int
	}{
		// One generator.
		{[]int{1}, 0, 1},
		{[]int{1}, 1, 0},
		{[]int{1}, 2, 0},
		{[]int{1}, 1000, 0},
		{[]int{1}, 1001, 0},
		{[]int{1}, -1, 0},
		// Two.
		{[]int{3, 5}, 0, 1},
		{[]int{3, 5}, 3, 0},
		{[]int{3, 5}, 7, 0},
		{[]int{3, 5}, 8, 0},
		{[]int{3, 5}, 15, -1},
		{[]int{3, 5}, 16, 0},
		{[]int{3, 5}, 30, 0},
		{[]int{3, 5}, 1000, 0},
		{[]int{3, 5}, 1001, 0},
		{[]int{2, 3}, 6, -1},
		// Three.
		{[]int{4, 6, 9}, 12, -1},
		{[]int{4, 6, 9}, 18, -1},
		{[]int{4, 6, 9}, 30, 1},
		{[]int{4, 6, 9}, 24, 0},
		{[]int{6, 10, 15}, 30, -2},
		{[]int{6, 10, 15}, 60, 1},
		{[]int{3, 4, 5}, 8, -1},
		{[]int{3, 4, 5}, 13, 1},
		{[]int{3, 4, 5}, 14, 1},
		{[]int{3, 4, 5}, 12, 0},
		// Twelve.
		{numbersFrom(12, 23), 0, 1},
		{numbersFrom(12, 23), 24, 0},
		{numbersFrom(12, 23), 26, -1},
		{numbersFrom(12, 23), 36, -6},
		// 1000, one more, below zero and the integers at the ends.
		{[]int{3, 5}, -1, 0},
		{[]int{3, 5}, -15, 0},
		{[]int{3, 5}, 1<<32 + 15, 0},
		{[]int{3, 5}, math.MinInt, 0},
		{[]int{3, 5}, math.MinInt + 15, 0},
		{[]int{3, 5}, math.MaxInt, 0},
		// No semigroup.
		{nil, 0, 0},
		{[]int{0}, 0, 0},
		{[]int{2}, 0, 0},
		{[]int{5, 3}, 15, 0},
		{[]int{3, 5, 8}, 0, 0},
		{[]int{2, 61}, 0, 0},
	}
	for _, c := range cases {
		if c.n >= 0 && c.n <= 1000 && eulersByText(c.gens)[c.n] != c.want {
			t.Errorf("the test itself is wrong: %d, %d: %d", c.gens, c.n, eulersByText(c.gens)[c.n])
		}
		if got := impl.EulerAt(impl.Semigroup{Gens: c.gens}, c.n); got != c.want {
			t.Errorf("EulerAt(%d, %d) = %d; want %d", c.gens, c.n, got, c.want)
		}
	}
}

func TestEulerAtOfSomeSemigroups(t *testing.T) {
	for _, gens := range append(factoredSemigroups(), invalidGens()...) {
		s := impl.Semigroup{Gens: gens}
		for n, want := range eulersByText(gens) {
			if len(gens) > 8 && n > 60 && n%13 > 0 {
				continue
			}
			if got := impl.EulerAt(s, n); got != want {
				t.Fatalf("EulerAt(%d, %d) = %d; want %d", gens, n, got, want)
			}
		}
		for _, n := range seriesNumbers() {
			if got := impl.EulerAt(s, n); (n < 0 || n > 1000) && got != 0 {
				t.Fatalf("EulerAt(%d, %d) = %d", gens, n, got)
			}
		}
	}
}

func TestEulerList(t *testing.T) {
	cases := []struct{ gens, want []int }{
		{[]int{1}, []int{1}},
		{[]int{2, 3}, []int{1, 0, 0, 0, 0, 0, -1}},
		{[]int{3, 5}, []int{1, 0, 0, 0, 0, 0, 0, 0, 0, 0, 0, 0, 0, 0, 0, -1}},
		{[]int{3, 4, 5}, []int{1, 0, 0, 0, 0, 0, 0, 0, -1, -1, -1, 0, 0, 1, 1}},
		{nil, nil},
		{[]int{2}, nil},
		{[]int{5, 3}, nil},
		{[]int{3, 5, 8}, nil},
		{[]int{2, 61}, nil},
	}
	for _, c := range cases {
		if byText := eulerListByText(c.gens); !slices.Equal(byText, c.want) {
			t.Errorf("the test itself is wrong: %d: %d", c.gens, byText)
		}
		if got := impl.EulerList(impl.Semigroup{Gens: c.gens}); !slices.Equal(got, c.want) {
			t.Errorf("EulerList(%d) = %d; want %d", c.gens, got, c.want)
		}
	}
}

// compareEulerList also asks for EulerAt at each place of the list, and behind
// its end, and multiplies the polynomials of the text.
func compareEulerList(t *testing.T, gens []int) {
	t.Helper()
	s := impl.Semigroup{Gens: gens}
	got, want := impl.EulerList(s), eulerListByText(gens)
	if !slices.Equal(got, want) {
		t.Fatalf("EulerList(%d) = %d; want %d", gens, got, want)
	}
	if len(want) == 0 {
		return
	}
	for n := 0; n < len(got)+20; n += 1 + len(gens)/6 {
		at, listed := impl.EulerAt(s, n), 0
		if n < len(got) {
			listed = got[n]
		}
		if at != listed {
			t.Fatalf("EulerAt(%d, %d) = %d, but EulerList has %d", gens, n, at, listed)
		}
	}
	product := numeratorByText(gens)
	for _, a := range gens {
		longer := slices.Concat(product, make([]int, a))
		for i, x := range product {
			longer[i+a] -= x
		}
		product = longer
	}
	back := []int{got[0]}
	for i := 1; i < len(got); i++ {
		back = append(back, got[i]-got[i-1])
	}
	if back = append(back, -got[len(got)-1]); !slices.Equal(back, product) {
		t.Fatalf("EulerList(%d) = %d, which gives %d, multiplied by 1 - x; want %d", gens, got, back, product)
	}
}

func TestEulerListOfSomeSemigroups(t *testing.T) {
	for _, gens := range append(factoredSemigroups(), invalidGens()...) {
		compareEulerList(t, gens)
	}
}

func TestEulerListOfSubsets(t *testing.T) {
	for set := range 1 << 9 {
		var list []int
		for g := 1; g <= 9; g++ {
			if set>>(g-1)&1 == 1 {
				list = append(list, g)
			}
		}
		compareEulerList(t, list)
	}
}

func TestSeriesOfNoSemigroup(t *testing.T) {
	for _, gens := range append(invalidGens(), []int{48, 60}, []int{1, 1}) {
		s := impl.Semigroup{Gens: gens}
		if got := impl.NumeratorOf(s); len(got) > 0 {
			t.Errorf("NumeratorOf(%d), of no semigroup, = %d", gens, got)
		}
		if got := impl.EulerList(s); len(got) > 0 {
			t.Errorf("EulerList(%d), of no semigroup, = %d", gens, got)
		}
		for _, n := range seriesNumbers() {
			if got := impl.EulerAt(s, n); got != 0 {
				t.Errorf("EulerAt(%d, %d), of no semigroup, = %d", gens, n, got)
			}
		}
	}
}

func TestSeriesCallsLeaveGens(t *testing.T) {
	calls := map[string]func(s impl.Semigroup) []int{
		"NumeratorOf": impl.NumeratorOf,
		"EulerList":   impl.EulerList,
		"EulerAt":     func(s impl.Semigroup) []int { impl.EulerAt(s, 60); impl.EulerAt(s, -1); return nil },
	}
	for name, call := range calls {
		for _, gens := range append(factoredSemigroups(), invalidGens()...) {
			g := guard(gens)
			call(impl.Semigroup{Gens: g.list})
			g.check(t, name, gens)
		}
		for _, gens := range factoredSemigroups() {
			checkNewMemory(t, name, gens, call)
		}
	}
}

// TestSeriesListCalls looks at the arguments and the memory of the functions
// of lists.
func TestSeriesListCalls(t *testing.T) {
	calls := map[string]func(a []int, b []int) []int{
		"SeriesFrom":                 func(a []int, b []int) []int { return impl.SeriesFrom(a, len(b)) },
		"SeriesFrom the length":      func(a []int, b []int) []int { return impl.SeriesFrom(a, len(a)) },
		"SeriesFrom 1000":            func(a []int, b []int) []int { return impl.SeriesFrom(a, 1000) },
		"SeriesFrom, which fails,":   func(a []int, b []int) []int { return impl.SeriesFrom(a, 1001) },
		"IsPalindrome":               func(a []int, b []int) []int { impl.IsPalindrome(a); return nil },
		"MultiplyLists":              impl.MultiplyLists,
		"MultiplyLists by one":       func(a []int, b []int) []int { return impl.MultiplyLists(a, []int{1}) },
		"MultiplyLists one by":       func(a []int, b []int) []int { return impl.MultiplyLists([]int{1}, b) },
		"MultiplyLists a list twice": func(a []int, b []int) []int { return impl.MultiplyLists(a, a) },
	}
	lists := [][]int{nil, {1}, {0}, {3, 1, 2}, {1, -1, 1}, {math.MinInt, math.MaxInt}, risingList(40, 3), risingList(500, 3), risingList(501, 3)}
	for name, call := range calls {
		for _, a := range lists {
			for _, b := range lists {
				x, y := guard(a), guard(b)
				first := call(x.list, y.list)
				want := slices.Clone(first)
				second := call(x.list, y.list)
				scribble(first)
				x.check(t, name+", or a change of its result,", a)
				y.check(t, name+", or a change of its result,", b)
				third := call(x.list, y.list)
				scribble(x.whole)
				scribble(y.whole)
				if !slices.Equal(second, want) || !slices.Equal(third, want) {
					t.Fatalf("%s: the result %d becomes %d and %d when others change", name, want, second, third)
				}
			}
		}
	}
}
