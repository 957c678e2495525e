package tests

import (
	"math"
	"slices"
	"testing"

	"loop.example/g00595/impl"
)

// Promise 23: the formulas for two numbers and for runs agree with the least
// sums in each class.

// isPairByText asks whether no number from 2 on divides both.
func isPairByText(a int, b int) bool {
	return a >= 1 && a <= 1000 && b >= 1 && b <= 1000 && divisorOf(a, b) == 1
}

// pairFacts is what chapter 23 says of two numbers.
type pairFacts struct{ frobenius, genus int }

// pairFactsByText counts the numbers that are no sums. None of them is as great
// as the product.
func pairFactsByText(a int, b int) pairFacts {
	if !isPairByText(a, b) {
		return pairFacts{-1, -1}
	}
	f := pairFacts{-1, 0}
	for n, isSum := range searchedSums([]int{a, b}, a*b) {
		if !isSum {
			f.frobenius = n
			f.genus++
		}
	}
	return f
}

func waysByText(a int, b int, n int) int {
	if !isPairByText(a, b) || n < 0 || n > 1000000 {
		return -1
	}
	ways := 0
	for left := n; left >= 0; left -= a {
		if left%b == 0 {
			ways++
		}
	}
	return ways
}

// runByText searches the greatest number that is no sum. With a and a + d there
// are sums of all numbers from their product on.
func runByText(a int, d int, k int) int {
	if a < 2 || a > 1000 || d < 1 || d > 1000 || divisorOf(a, d) != 1 || k < 1 || k > a-1 {
		return -1
	}
	var run []int
	for i := 0; i <= k; i++ {
		run = append(run, a+i*d)
	}
	greatest := -1
	for n, isSum := range searchedSums(run, a*(a+d)) {
		if !isSum {
			greatest = n
		}
	}
	return greatest
}

// leastInSumByText searches all sums up to a times the greatest number: with as
// many as a numbers, some of them can be left out.
func leastInSumByText(list []int, a int) []int {
	if a < 1 || a > 200 || len(list) < 1 || len(list) > 20 || slices.Min(list) < 1 || slices.Max(list) > 1000 {
		return nil
	}
	least := slices.Repeat([]int{-1}, a)
	for n, isSum := range searchedSums(list, a*slices.Max(list)) {
		if isSum && least[n%a] < 0 {
			least[n%a] = n
		}
	}
	return least
}

func comparePair(t *testing.T, a int, b int) {
	t.Helper()
	got, want := pairFacts{impl.PairFrobenius(a, b), impl.PairGenus(a, b)}, pairFactsByText(a, b)
	if got != want {
		t.Fatalf("PairFrobenius, PairGenus(%d, %d) = %v; want %v", a, b, got, want)
	}
}

func compareWays(t *testing.T, a int, b int, n int) {
	t.Helper()
	if got, want := impl.PairWays(a, b, n), waysByText(a, b, n); got != want {
		t.Fatalf("PairWays(%d, %d, %d) = %d; want %d", a, b, n, got, want)
	}
}

func compareRun(t *testing.T, a int, d int, k int) {
	t.Helper()
	if got, want := impl.RunFrobenius(a, d, k), runByText(a, d, k); got != want {
		t.Fatalf("RunFrobenius(%d, %d, %d) = %d; want %d", a, d, k, got, want)
	}
}

func compareLeastInSum(t *testing.T, list []int, a int) {
	t.Helper()
	if got, want := impl.LeastInSum(list, a), leastInSumByText(list, a); !slices.Equal(got, want) {
		t.Fatalf("LeastInSum(%d, %d) = %d; want %d", list, a, got, want)
	}
}

func TestPairs(t *testing.T) {
	cases := []struct {
		a, b, frobenius, genus int
	}{
		{3, 5, 7, 4},
		{5, 3, 7, 4},
		{2, 3, 1, 1},
		{6, 7, 29, 15},
		{59, 60, 3421, 1711},
		// 1, also twice.
		{1, 1, -1, 0},
		{1, 9, -1, 0},
		{9, 1, -1, 0},
		{1, 1000, -1, 0},
		// 1000 and 1001.
		{999, 1000, 997001, 498501},
		{1000, 999, 997001, 498501},
		{1000, 1, -1, 0},
		{1000, 3, 1997, 999},
		{1001, 2, -1, -1},
		{2, 1001, -1, -1},
		{1001, 1, -1, -1},
		{1, 1001, -1, -1},
		{1001, 1000, -1, -1},
		// 0, below zero and the extremes.
		{0, 1, -1, -1},
		{1, 0, -1, -1},
		{0, 0, -1, -1},
		{0, 5, -1, -1},
		{-1, 1, -1, -1},
		{1, -1, -1, -1},
		{-3, 5, -1, -1},
		{3, -5, -1, -1},
		{-3, -5, -1, -1},
		{1 << 32, 1, -1, -1},
		{1<<32 + 3, 5, -1, -1},
		{math.MinInt, 1, -1, -1},
		{1, math.MinInt, -1, -1},
		{math.MaxInt, 2, -1, -1},
		{2, math.MaxInt, -1, -1},
		{math.MaxInt, math.MaxInt, -1, -1},
		// A common divisor, and equal numbers.
		{4, 6, -1, -1},
		{6, 9, -1, -1},
		{500, 1000, -1, -1},
		{2, 2, -1, -1},
		{7, 7, -1, -1},
		{1000, 1000, -1, -1},
	}
	for _, c := range cases {
		if byText := pairFactsByText(c.a, c.b); byText != (pairFacts{c.frobenius, c.genus}) {
			t.Errorf("the test itself is wrong: %d, %d: %v", c.a, c.b, byText)
		}
		if f, g := impl.PairFrobenius(c.a, c.b), impl.PairGenus(c.a, c.b); f != c.frobenius || g != c.genus {
			t.Errorf("PairFrobenius, PairGenus(%d, %d) = %d, %d; want %d, %d", c.a, c.b, f, g, c.frobenius, c.genus)
		}
	}
}

func TestAllSmallPairs(t *testing.T) {
	for a := -2; a <= 40; a++ {
		for b := -2; b <= 40; b++ {
			comparePair(t, a, b)
		}
	}
	for _, a := range []int{1, 2, 3, 60, 61, 500, 999, 1000, 1001, 1002} {
		for _, b := range []int{1, 2, 7, 59, 101, 998, 999, 1000, 1001} {
			comparePair(t, a, b)
		}
	}
}

// TestPairsOfSemigroups: where two numbers generate a semigroup, it has this
// greatest gap and this genus.
func TestPairsOfSemigroups(t *testing.T) {
	for a := 2; a <= 60; a++ {
		for b := a + 1; b <= 60; b++ {
			if s, ok := impl.FromGens([]int{a, b}); ok && (impl.FrobeniusOf(s) != impl.PairFrobenius(a, b) || impl.GenusOf(s) != impl.PairGenus(a, b)) {
				t.Fatalf("%d has the greatest gap %d and the genus %d", s.Gens, impl.FrobeniusOf(s), impl.GenusOf(s))
			}
		}
	}
}

func TestPairWays(t *testing.T) {
	cases := []struct{ a, b, n, want int }{
		{3, 5, 15, 2},
		{3, 5, 7, 0},
		{3, 5, 8, 1},
		{3, 5, 14, 1},
		{3, 5, 22, 1},
		{3, 5, 30, 3},
		{5, 3, 30, 3},
		{3, 5, 1, 0},
		{3, 5, 3, 1},
		{2, 3, 6, 2},
		// n of 0, of MaxNumber and beyond.
		{3, 5, 0, 1},
		{1, 1, 0, 1},
		{1000, 999, 0, 1},
		{3, 5, 1000000, 66667},
		{3, 5, 1000001, -1},
		{1, 1, 1000000, 1000001},
		{1, 1, 1000001, -1},
		{1000, 1, 1000000, 1001},
		{1, 1000, 1000000, 1001},
		{1000, 999, 1000000, 2},
		{999, 1000, 997001, 0},
		{999, 1000, 997002, 1},
		{3, 5, -1, -1},
		{3, 5, -15, -1},
		{1, 1, math.MinInt, -1},
		{1, 1, math.MaxInt, -1},
		{1, 1, 1<<32 + 3, -1},
		// a and b beyond their limits, with a common divisor and equal.
		{0, 1, 5, -1},
		{1, 0, 5, -1},
		{0, 1, 0, -1},
		{1001, 1, 5, -1},
		{1, 1001, 5, -1},
		{-1, 1, 5, -1},
		{1, -1, 5, -1},
		{math.MinInt, 1, 5, -1},
		{1, math.MaxInt, 5, -1},
		{3, 6, 9, -1},
		{4, 6, 10, -1},
		{5, 5, 10, -1},
		{2, 2, 0, -1},
		// Equal numbers without a common divisor.
		{1, 1, 7, 8},
	}
	for _, c := range cases {
		if byText := waysByText(c.a, c.b, c.n); byText != c.want {
			t.Errorf("the test itself is wrong: %d, %d, %d: %d", c.a, c.b, c.n, byText)
		}
		if got := impl.PairWays(c.a, c.b, c.n); got != c.want {
			t.Errorf("PairWays(%d, %d, %d) = %d; want %d", c.a, c.b, c.n, got, c.want)
		}
	}
}

func TestManyPairWays(t *testing.T) {
	for a := 0; a <= 13; a++ {
		for b := 0; b <= 13; b++ {
			for n := -2; n <= 200; n++ {
				compareWays(t, a, b, n)
			}
		}
	}
	for _, a := range []int{1, 2, 61, 997, 1000, 1001} {
		for _, b := range []int{1, 3, 59, 998, 999, 1000} {
			for _, n := range []int{a, b, a * b, a*b - a - b, a*b - 1, a*b + a, 2 * a * b, 100000, 999998, 999999, 1000000, 1000001} {
				compareWays(t, a, b, n)
			}
		}
	}
}

// TestWaysOfPairsAndGaps: there is no way for as many numbers as PairGenus says,
// and PairFrobenius is the greatest one of them.
func TestWaysOfPairsAndGaps(t *testing.T) {
	for a := 1; a <= 20; a++ {
		for b := 1; b <= 20; b++ {
			if !isPairByText(a, b) {
				continue
			}
			without, greatest := 0, -1
			for n := range a*b + 1 {
				if impl.PairWays(a, b, n) == 0 {
					without++
					greatest = n
				}
			}
			if without != impl.PairGenus(a, b) || greatest != impl.PairFrobenius(a, b) {
				t.Fatalf("of %d and %d, %d numbers up to %d have no way", a, b, without, greatest)
			}
		}
	}
}

func TestRunFrobenius(t *testing.T) {
	cases := []struct{ a, d, k, want int }{
		{5, 2, 3, 13},
		{3, 1, 2, 2},
		{7, 1, 1, 41},
		{4, 3, 2, 13},
		{10, 1, 3, 29},
		{10, 3, 9, 27},
		// a of 1 and 2.
		{2, 1, 1, 1},
		{2, 3, 1, 3},
		{2, 999, 1, 999},
		{2, 1, 2, -1},
		{2, 1, 0, -1},
		{1, 1, 1, -1},
		{1, 1, 0, -1},
		{1, 5, 1, -1},
		{0, 1, 1, -1},
		{-2, 1, 1, -1},
		// a of 1000 and 1001.
		{1000, 1, 1, 998999},
		{1000, 999, 1, 1996001},
		{1000, 1, 999, 999},
		{1000, 1, 1000, -1},
		{1001, 1, 1, -1},
		{1001, 2, 5, -1},
		// k of 0, a - 1 and a.
		{5, 2, 0, -1},
		{5, 2, 1, 23},
		{5, 2, 4, 8},
		{5, 2, 5, -1},
		{5, 2, 6, -1},
		{5, 2, -1, -1},
		{3, 1, 3, -1},
		{5, 2, math.MinInt, -1},
		{5, 2, math.MaxInt, -1},
		{5, 2, 1<<32 + 1, -1},
		// d of 0, 1000 and 1001.
		{5, 0, 1, -1},
		{2, 0, 1, -1},
		{3, 1000, 1, 2003},
		{3, 1000, 2, 2000},
		{3, 1001, 1, -1},
		{5, -1, 1, -1},
		{5, math.MinInt, 1, -1},
		{5, math.MaxInt, 1, -1},
		{math.MinInt, 1, 1, -1},
		{math.MaxInt, 2, 1, -1},
		// A common divisor, and equal numbers.
		{4, 2, 1, -1},
		{6, 9, 2, -1},
		{5, 5, 1, -1},
		{1000, 1000, 1, -1},
	}
	for _, c := range cases {
		if byText := runByText(c.a, c.d, c.k); byText != c.want {
			t.Errorf("the test itself is wrong: %d, %d, %d: %d", c.a, c.d, c.k, byText)
		}
		if got := impl.RunFrobenius(c.a, c.d, c.k); got != c.want {
			t.Errorf("RunFrobenius(%d, %d, %d) = %d; want %d", c.a, c.d, c.k, got, c.want)
		}
	}
}

func TestManyRuns(t *testing.T) {
	for a := -1; a <= 16; a++ {
		for _, d := range []int{-1, 0, 1, 2, 3, 4, 5, 7, 12, 25} {
			for k := -2; k <= a+2; k++ {
				compareRun(t, a, d, k)
			}
		}
	}
	for _, k := range []int{1, 2, 3, 59, 60, 98, 99, 100, 101} {
		compareRun(t, 100, 1, k)
		compareRun(t, 99, 7, k)
		compareRun(t, 101, 30, k)
	}
}

// TestFormulasAndLeastSums: the greatest one of the least sums, less the modulus,
// is the greatest number that is no sum.
func TestFormulasAndLeastSums(t *testing.T) {
	for _, a := range []int{1, 2, 3, 10, 59, 60, 127, 199, 200} {
		for _, b := range []int{1, 2, 7, 61, 99, 500, 997, 999, 1000} {
			if !isPairByText(a, b) {
				continue
			}
			sums, genus := impl.LeastInSum([]int{a, b}, a), 0
			for _, n := range sums {
				genus += n / a
			}
			if slices.Max(sums)-a != impl.PairFrobenius(a, b) || genus != impl.PairGenus(a, b) {
				t.Fatalf("PairFrobenius, PairGenus(%d, %d) = %d, %d, but the least sums are %d", a, b, impl.PairFrobenius(a, b), impl.PairGenus(a, b), sums)
			}
		}
		for _, d := range []int{1, 3, 7, 11, 40} {
			for k := 1; k < min(a, 20) && a+k*d <= 1000; k++ {
				if !isPairByText(a, d) {
					continue
				}
				var run []int
				for i := 0; i <= k; i++ {
					run = append(run, a+i*d)
				}
				if sums := impl.LeastInSum(run, a); slices.Max(sums)-a != impl.RunFrobenius(a, d, k) {
					t.Fatalf("RunFrobenius(%d, %d, %d) = %d, but the least sums are %d", a, d, k, impl.RunFrobenius(a, d, k), sums)
				}
			}
		}
	}
}

func TestLeastInSum(t *testing.T) {
	cases := []struct {
		list []int
		a    int
		want []int
	}{
		{[]int{5}, 3, []int{0, 10, 5}},
		{[]int{9, 20}, 6, []int{0, 49, 20, 9, 40, 29}},
		{[]int{3, 5}, 3, []int{0, 10, 5}},
		{[]int{7, 2}, 4, []int{0, 9, 2, 7}},
		// Classes that no sum reaches.
		{[]int{4}, 6, []int{0, -1, 8, -1, 4, -1}},
		{[]int{6}, 6, []int{0, -1, -1, -1, -1, -1}},
		{[]int{6, 12}, 4, []int{0, -1, 6, -1}},
		{[]int{1000}, 200, append([]int{0}, slices.Repeat([]int{-1}, 199)...)},
		{[]int{6, 9}, 12, []int{0, -1, -1, 15, -1, -1, 6, -1, -1, 9, -1, -1}},
		// Equal numbers, and another order.
		{[]int{5, 5, 5}, 3, []int{0, 10, 5}},
		{[]int{20, 9}, 6, []int{0, 49, 20, 9, 40, 29}},
		{[]int{20, 9, 20, 6, 9}, 6, []int{0, 49, 20, 9, 40, 29}},
		// a of 0, 1 and beyond.
		{[]int{5}, 1, []int{0}},
		{[]int{1000, 7}, 1, []int{0}},
		{[]int{1}, 0, nil},
		{[]int{1}, -1, nil},
		{[]int{1}, 201, nil},
		{[]int{1}, 1 << 32, nil},
		{[]int{1}, 1<<32 + 3, nil},
		{[]int{1}, math.MinInt, nil},
		{[]int{1}, math.MaxInt, nil},
		{[]int{1}, 200, numbersFrom(0, 199)},
		{[]int{199}, 200, append([]int{0}, upTo(199*199, 199, 199)...)},
		// Lists of none, of 20 and of 21 numbers.
		{nil, 3, nil},
		{[]int{}, 3, nil},
		{nil, 1, nil},
		{slices.Repeat([]int{5}, 20), 3, []int{0, 10, 5}},
		{slices.Repeat([]int{5}, 21), 3, nil},
		{numbersFrom(981, 1000), 4, []int{0, 981, 982, 983}},
		{numbersFrom(980, 1000), 4, nil},
		// Numbers of 0, 1, 1000, 1001 and beyond.
		{[]int{1}, 3, []int{0, 1, 2}},
		{[]int{1000}, 3, []int{0, 1000, 2000}},
		{[]int{0}, 3, nil},
		{[]int{1001}, 3, nil},
		{[]int{5, 0}, 3, nil},
		{[]int{0, 5}, 3, nil},
		{[]int{5, 1001}, 3, nil},
		{[]int{1001, 5}, 3, nil},
		{[]int{5, -1}, 3, nil},
		{[]int{5, math.MinInt}, 3, nil},
		{[]int{math.MaxInt, 5}, 3, nil},
		{[]int{1 << 32, 5}, 3, nil},
	}
	for _, c := range cases {
		if byText := leastInSumByText(c.list, c.a); !slices.Equal(byText, c.want) {
			t.Errorf("the test itself is wrong: %d, %d: %d", c.list, c.a, byText)
		}
		if got := impl.LeastInSum(c.list, c.a); !slices.Equal(got, c.want) {
			t.Errorf("LeastInSum(%d, %d) = %d; want %d", c.list, c.a, got, c.want)
		}
	}
}

func TestLeastInSumOfManyLists(t *testing.T) {
	for _, list := range shortLists([]int{0, 1, 4, 6, 9, 10, 15, 35}, 3) {
		for a := -1; a <= 24; a++ {
			compareLeastInSum(t, list, a)
		}
	}
	for _, list := range [][]int{{1000, 999}, {998, 1000}, {7, 1000, 1000}, {500, 750, 900, 905}, numbersFrom(981, 1000), {1000, 35, 420, 77}} {
		for _, a := range []int{1, 2, 7, 60, 97, 198, 199, 200, 201} {
			compareLeastInSum(t, list, a)
		}
	}
}

// TestLeastInSumOfSemigroups: with an element as the modulus, they are AperySet.
func TestLeastInSumOfSemigroups(t *testing.T) {
	for _, gens := range factoredSemigroups() {
		for _, n := range gens {
			if got, want := impl.LeastInSum(gens, n), impl.AperySet(impl.Semigroup{Gens: gens}, n); !slices.Equal(got, want) {
				t.Fatalf("LeastInSum(%d, %d) = %d; AperySet is %d", gens, n, got, want)
			}
		}
	}
}

func TestLeastInSumLeavesItsList(t *testing.T) {
	for _, list := range slices.Concat(validGens(), invalidGens(), argumentLists()) {
		for _, a := range []int{-1, 0, 1, 3, 12, 200, 201} {
			l := guard(list)
			first := impl.LeastInSum(l.list, a)
			want := slices.Clone(first)
			second := impl.LeastInSum(l.list, a)
			scribble(first)
			l.check(t, "LeastInSum, or a change of its result,", list)
			third := impl.LeastInSum(l.list, a)
			scribble(l.whole)
			if !slices.Equal(second, want) || !slices.Equal(third, want) {
				t.Errorf("LeastInSum(%d, %d) gives %d and %d after others were changed; want %d", list, a, second, third, want)
			}
		}
	}
}
