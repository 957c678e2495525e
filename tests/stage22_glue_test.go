package tests

import (
	"math"
	"slices"
	"testing"

	"loop.example/g00595/impl"
)

// Promise 22: the greatest gap of a gluing follows from those of its parts.

// divisorOf returns the greatest number up to 1000 by which all numbers can be
// divided.
func divisorOf(numbers ...int) int {
	for d := 1000; d > 1; d-- {
		if !slices.ContainsFunc(numbers, func(n int) bool { return n%d != 0 }) {
			return d
		}
	}
	return 1
}

// mayMultiply reports whether the other semigroup may be multiplied by n.
func mayMultiply(gens []int, n int) bool {
	return n >= 1 && n <= 60 && slices.Contains(elementsByText(gens, 60), n) && !slices.Contains(gens, n)
}

// gluedByText looks at the sums themselves, not at their generators. The
// greatest number that is no sum is the second result. If the sums up to 1000
// include all from 200 on, so do the others: the least positive one leads on.
func gluedByText(a []int, b []int, x int, y int) ([]int, int, bool) {
	if !areGens(a, 12) || !areGens(b, 12) || !mayMultiply(b, x) || !mayMultiply(a, y) || divisorOf(x, y) != 1 {
		return nil, -1, false
	}
	if !isSemigroupByText(a) || !isSemigroupByText(b) {
		return nil, -1, false
	}
	isSum := make([]bool, 1001)
	elementsOfB := elementsByText(b, 1000/y)
	for _, i := range elementsByText(a, 1000/x) {
		for _, j := range elementsOfB {
			if sum := x*i + y*j; sum <= 1000 {
				isSum[sum] = true
			}
		}
	}
	if slices.Contains(isSum[200:], false) {
		return nil, -1, false
	}
	gaps := gapsByText(func(n int) bool { return isSum[n] })
	gens, ok := fromGapsByText(gaps)
	if !ok {
		return nil, -1, false
	}
	return gens, gaps[len(gaps)-1], true
}

func isTelescopicByText(list []int) bool {
	if !areGens(list, 20) || divisorOf(list...) != 1 {
		return false
	}
	for i, n := range list {
		if i == 0 {
			continue
		}
		d, e := divisorOf(list[:i]...), divisorOf(list[:i+1]...)
		var before []int
		for _, g := range list[:i] {
			before = append(before, g/d)
		}
		if !searchedSums(before, n/e)[n/e] {
			return false
		}
	}
	return true
}

// telescopicByText returns the greatest number that is no sum, found by a
// search, if there is one: none of them is beyond 3600.
func telescopicByText(list []int) int {
	if !isTelescopicByText(list) {
		return -1
	}
	greatest := -1
	for n, isSum := range searchedSums(list, 3700) {
		if !isSum {
			greatest = n
		}
	}
	return greatest
}

func compareGlue(t *testing.T, a []int, b []int, x int, y int) bool {
	t.Helper()
	first, second := impl.Semigroup{Gens: a}, impl.Semigroup{Gens: b}
	got, ok := impl.GlueOf(first, second, x, y)
	want, greatest, wantOK := gluedByText(a, b, x, y)
	if !slices.Equal(got.Gens, want) || ok != wantOK {
		t.Fatalf("GlueOf(%d, %d, %d, %d) = %d, %v; want %d, %v", a, b, x, y, got.Gens, ok, want, wantOK)
	}
	if frobenius := impl.GlueFrobenius(first, second, x, y); frobenius != greatest {
		t.Fatalf("GlueFrobenius(%d, %d, %d, %d) = %d; want %d", a, b, x, y, frobenius, greatest)
	}
	if !ok {
		return false
	}
	var gens []int
	for _, g := range a {
		gens = append(gens, x*g)
	}
	for _, g := range b {
		gens = append(gens, y*g)
	}
	slices.Sort(gens)
	if !slices.Equal(got.Gens, gens) || impl.FrobeniusOf(got) != greatest {
		t.Fatalf("GlueOf(%d, %d, %d, %d) = %d with the greatest gap %d; want %d and %d", a, b, x, y, got.Gens, impl.FrobeniusOf(got), gens, greatest)
	}
	if back, ok := impl.GlueOf(second, first, y, x); !ok || !slices.Equal(back.Gens, got.Gens) {
		t.Fatalf("GlueOf(%d, %d, %d, %d) = %d, %v; but in the other order %d", b, a, y, x, back.Gens, ok, got.Gens)
	}
	return true
}

func TestGlueOf(t *testing.T) {
	one := []int{1}
	cases := []struct {
		a, b     []int
		x, y     int
		want     []int
		greatest int
	}{
		// The semigroup without gaps as either one.
		{one, one, 3, 5, []int{3, 5}, 7},
		{one, one, 5, 3, []int{3, 5}, 7},
		{one, one, 2, 3, []int{2, 3}, 1},
		{one, one, 2, 59, []int{2, 59}, 57},
		{[]int{2, 3}, one, 2, 9, []int{4, 6, 9}, 11},
		{one, []int{2, 3}, 9, 2, []int{4, 6, 9}, 11},
		{[]int{2, 3}, one, 3, 20, []int{6, 9, 20}, 43},
		{[]int{2, 3}, one, 2, 59, []int{4, 6, 59}, 61},
		{[]int{2, 3}, []int{2, 3}, 5, 4, []int{8, 10, 12, 15}, 29},
		{[]int{3, 5}, []int{2, 3}, 4, 9, []int{12, 18, 20, 27}, 73},
		{[]int{3, 4, 5}, []int{2, 3}, 5, 6, []int{12, 15, 18, 20, 25}, 46},
		// A common divisor.
		{one, one, 4, 6, nil, -1},
		{one, one, 6, 9, nil, -1},
		{one, one, 2, 2, nil, -1},
		{[]int{2, 3}, one, 2, 8, nil, -1},
		{[]int{2, 3}, []int{2, 3}, 4, 6, nil, -1},
		// x that is no element of b, or one of its Gens.
		{[]int{2, 3}, []int{2, 3}, 1, 5, nil, -1},
		{[]int{2, 3}, []int{2, 3}, 2, 5, nil, -1},
		{[]int{2, 3}, []int{2, 3}, 3, 5, nil, -1},
		{one, []int{3, 5}, 7, 2, nil, -1},
		{one, []int{3, 5}, 5, 2, nil, -1},
		{one, []int{3, 5}, 3, 2, nil, -1},
		{one, []int{3, 5}, 9, 2, []int{6, 9, 10}, 23},
		{one, one, 1, 2, nil, -1},
		{one, one, 1, 1, nil, -1},
		// y that is no element of a, or one of its Gens.
		{[]int{2, 3}, []int{2, 3}, 5, 1, nil, -1},
		{[]int{2, 3}, []int{2, 3}, 5, 2, nil, -1},
		{[]int{2, 3}, []int{2, 3}, 5, 3, nil, -1},
		{[]int{3, 5}, one, 2, 7, nil, -1},
		{[]int{3, 5}, one, 2, 5, nil, -1},
		{[]int{3, 5}, one, 2, 9, []int{6, 9, 10}, 23},
		{one, one, 2, 1, nil, -1},
		// What is one of the Gens of the other one only.
		{[]int{3, 5}, []int{2, 3}, 5, 6, []int{12, 15, 18, 25}, 71},
		// Numbers that would be right the other way around.
		{[]int{2, 3}, one, 9, 2, nil, -1},
		{[]int{3, 5}, []int{2, 3}, 9, 4, nil, -1},
		// x and y beyond their limits.
		{one, one, 0, 1, nil, -1},
		{one, one, 1, 0, nil, -1},
		{one, one, 0, 0, nil, -1},
		{one, one, 2, 0, nil, -1},
		{one, one, 60, 7, nil, -1},
		{one, one, 2, 61, nil, -1},
		{one, one, 61, 2, nil, -1},
		{one, one, -2, 3, nil, -1},
		{one, one, 2, -3, nil, -1},
		{one, one, -2, -3, nil, -1},
		{one, one, 1<<32 + 2, 3, nil, -1},
		{one, one, 2, 1<<32 + 3, nil, -1},
		{one, one, math.MinInt, 3, nil, -1},
		{one, one, 2, math.MinInt, nil, -1},
		{one, one, math.MaxInt, 3, nil, -1},
		{one, one, 2, math.MaxInt, nil, -1},
		{one, one, math.MaxInt, math.MinInt, nil, -1},
		// Results with 12 Gens, and with 13.
		{one, allFrom(11), 23, 2, append([]int{22, 23}, 24, 26, 28, 30, 32, 34, 36, 38, 40, 42), 43},
		{allFrom(11), one, 2, 23, append([]int{22, 23}, 24, 26, 28, 30, 32, 34, 36, 38, 40, 42), 43},
		{one, allFrom(12), 25, 2, nil, -1},
		{allFrom(12), one, 2, 25, nil, -1},
		// Results with a generator of 60, and with a greater one.
		{[]int{2, 3}, one, 20, 7, []int{7, 40, 60}, 153},
		{[]int{2, 3}, one, 20, 9, []int{9, 40, 60}, 191},
		{[]int{2, 3}, one, 21, 4, nil, -1},
		{one, []int{2, 3}, 4, 21, nil, -1},
		{[]int{2, 31}, one, 2, 33, nil, -1},
		{[]int{2, 29}, one, 2, 33, []int{4, 33, 58}, 87},
		// Results with a conductor of 198, of 200, of 201 and of 202.
		{one, one, 7, 34, []int{7, 34}, 197},
		{one, one, 5, 51, []int{5, 51}, 199},
		{one, one, 11, 21, []int{11, 21}, 199},
		{one, []int{3, 4, 5}, 31, 7, nil, -1},
		{[]int{3, 4}, []int{3, 4, 5}, 13, 9, nil, -1},
		{one, []int{2, 3}, 19, 11, nil, -1},
		{one, one, 5, 52, nil, -1},
		// No semigroup.
		{nil, one, 2, 3, nil, -1},
		{one, nil, 2, 3, nil, -1},
		{nil, nil, 2, 3, nil, -1},
		{[]int{2}, one, 3, 4, nil, -1},
		{one, []int{2}, 4, 3, nil, -1},
		{[]int{3, 2}, one, 2, 9, nil, -1},
		{[]int{2, 3, 5}, one, 2, 9, nil, -1},
		{one, []int{2, 61}, 9, 2, nil, -1},
	}
	for _, c := range cases {
		if byText, greatest, ok := gluedByText(c.a, c.b, c.x, c.y); !slices.Equal(byText, c.want) || greatest != c.greatest || ok != (len(c.want) > 0) {
			t.Errorf("the test itself is wrong: %d, %d, %d, %d: %d, %d", c.a, c.b, c.x, c.y, byText, greatest)
		}
		a, b := impl.Semigroup{Gens: c.a}, impl.Semigroup{Gens: c.b}
		if got, ok := impl.GlueOf(a, b, c.x, c.y); !slices.Equal(got.Gens, c.want) || ok != (len(c.want) > 0) {
			t.Errorf("GlueOf(%d, %d, %d, %d) = %d, %v; want %d", c.a, c.b, c.x, c.y, got.Gens, ok, c.want)
		}
		if got := impl.GlueFrobenius(a, b, c.x, c.y); got != c.greatest {
			t.Errorf("GlueFrobenius(%d, %d, %d, %d) = %d; want %d", c.a, c.b, c.x, c.y, got, c.greatest)
		}
		compareGlue(t, c.a, c.b, c.x, c.y)
	}
}

// TestGluedPairs takes pairs of some semigroups with the numbers around the
// limits and around their Gens.
func TestGluedPairs(t *testing.T) {
	count := 0
	some := [][]int{{1}, {2, 3}, {2, 5}, {3, 4, 5}, {3, 5}, {4, 6, 9}, {4, 5, 6, 7}, allFrom(11), {2}, nil}
	numbers := append(numbersFrom(-1, 16), math.MinInt, 21, 25, 59, 60, 61, 1<<32, math.MaxInt)
	for _, a := range some {
		for _, b := range some {
			for _, x := range numbers {
				for _, y := range numbers {
					if compareGlue(t, a, b, x, y) {
						count++
					}
				}
			}
		}
	}
	if count < 500 {
		t.Errorf("the test itself is wrong: only %d are glued", count)
	}
}

// TestGluedNumbers glues the semigroup without gaps to itself: each semigroup of
// two generators is made so.
func TestGluedNumbers(t *testing.T) {
	one := []int{1}
	for x := 0; x <= 62; x++ {
		for y := x; y <= 62; y++ {
			ok := compareGlue(t, one, one, x, y)
			if want := x > 1 && isSemigroupByText([]int{x, y}); ok != want {
				t.Fatalf("of %d and %d, GlueOf gives %v; want %v", x, y, ok, want)
			}
		}
	}
}

func TestGlueOfNoSemigroup(t *testing.T) {
	for _, gens := range append(invalidGens(), []int{48, 60}, []int{1, 1}) {
		for _, good := range append(validGens(), gens) {
			for _, numbers := range [][2]int{{2, 9}, {9, 2}, {5, 4}, {4, 5}, {1, 1}, {0, 0}, {60, 59}, {24, 25}} {
				for _, pair := range [][2][]int{{gens, good}, {good, gens}} {
					a, b := impl.Semigroup{Gens: pair[0]}, impl.Semigroup{Gens: pair[1]}
					got, ok := impl.GlueOf(a, b, numbers[0], numbers[1])
					if frobenius := impl.GlueFrobenius(a, b, numbers[0], numbers[1]); len(got.Gens) > 0 || ok || frobenius != -1 {
						t.Errorf("GlueOf(%d, %d, %d) = %d, %v, and GlueFrobenius = %d", pair[0], pair[1], numbers, got.Gens, ok, frobenius)
					}
				}
			}
		}
	}
}

func compareTelescopic(t *testing.T, list []int) bool {
	t.Helper()
	want := isTelescopicByText(list)
	if got := impl.IsTelescopic(list); got != want {
		t.Fatalf("IsTelescopic(%d) = %v; want %v", list, got, want)
	}
	if got, want := impl.TelescopicFrobenius(list), telescopicByText(list); got != want {
		t.Fatalf("TelescopicFrobenius(%d) = %d; want %d", list, got, want)
	}
	return want
}

func TestTelescopic(t *testing.T) {
	cases := []struct {
		list     []int
		is       bool
		greatest int
	}{
		{nil, false, -1},
		{[]int{}, false, -1},
		// One number.
		{[]int{1}, true, -1},
		{[]int{2}, false, -1},
		{[]int{0}, false, -1},
		{[]int{-1}, false, -1},
		{[]int{60}, false, -1},
		{[]int{61}, false, -1},
		// Two numbers.
		{[]int{3, 5}, true, 7},
		{[]int{5, 3}, true, 7},
		{[]int{1, 60}, true, -1},
		{[]int{60, 1}, true, -1},
		{[]int{59, 60}, true, 3421},
		{[]int{60, 59}, true, 3421},
		{[]int{60, 61}, false, -1},
		{[]int{1, 61}, false, -1},
		{[]int{1, 0}, false, -1},
		{[]int{0, 1}, false, -1},
		{[]int{1, -1}, false, -1},
		{[]int{math.MinInt, 1}, false, -1},
		{[]int{1, math.MaxInt}, false, -1},
		// Three numbers and more, and in another order.
		{[]int{4, 6, 9}, true, 11},
		{[]int{6, 4, 9}, true, 11},
		{[]int{4, 9, 6}, false, -1},
		{[]int{9, 6, 4}, true, 11},
		{[]int{6, 9, 4}, true, 11},
		{[]int{9, 4, 6}, false, -1},
		{[]int{6, 9, 20}, true, 43},
		{[]int{20, 9, 6}, false, -1},
		{[]int{20, 6, 9}, true, 43},
		{[]int{3, 5, 7}, false, -1},
		{[]int{3, 5, 8}, true, 7},
		{[]int{8, 12, 18, 27}, true, 49},
		{[]int{27, 18, 12, 8}, true, 49},
		{[]int{8, 12, 27, 18}, false, -1},
		{[]int{12, 8, 18, 27}, true, 49},
		// A common divisor.
		{[]int{4, 6}, false, -1},
		{[]int{6, 9}, false, -1},
		{[]int{6, 10, 14}, false, -1},
		{[]int{60, 60}, false, -1},
		// Equal numbers.
		{[]int{1, 1}, true, -1},
		{[]int{3, 3}, false, -1},
		{[]int{3, 3, 5}, true, 7},
		{[]int{3, 5, 3}, true, 7},
		{[]int{3, 5, 5}, true, 7},
		{[]int{4, 4, 6, 6, 9, 9}, true, 11},
		// 20 numbers and 21.
		{slices.Repeat([]int{1}, 20), true, -1},
		{slices.Repeat([]int{1}, 21), false, -1},
		{numbersFrom(2, 21), true, 1},
		{numbersFrom(2, 22), false, -1},
		{numbersFrom(1, 20), true, -1},
		{numbersFrom(1, 21), false, -1},
		{append(slices.Repeat([]int{4, 6}, 9), 9, 9), true, 11},
		{append(slices.Repeat([]int{4, 6}, 9), 9, 9, 9), false, -1},
		{slices.Repeat([]int{59, 60}, 10), true, 3421},
	}
	for _, c := range cases {
		if is, greatest := isTelescopicByText(c.list), telescopicByText(c.list); is != c.is || greatest != c.greatest {
			t.Errorf("the test itself is wrong: %d: %v, %d", c.list, is, greatest)
		}
		if is, greatest := impl.IsTelescopic(c.list), impl.TelescopicFrobenius(c.list); is != c.is || greatest != c.greatest {
			t.Errorf("IsTelescopic, TelescopicFrobenius(%d) = %v, %d; want %v, %d", c.list, is, greatest, c.is, c.greatest)
		}
	}
}

func TestTelescopicLists(t *testing.T) {
	count := map[bool]int{}
	for _, list := range shortLists([]int{0, 1, 3, 4, 6, 9, 10, 15, 20, 60, 61}, 3) {
		count[compareTelescopic(t, list)]++
	}
	for _, list := range shortLists([]int{6, 8, 9, 12, 27, 36}, 4) {
		count[compareTelescopic(t, list)]++
	}
	for _, gens := range slices.Concat(validGens(), invalidGens(), semigroupsWithLimits()) {
		count[compareTelescopic(t, gens)]++
		backwards := slices.Clone(gens)
		slices.Reverse(backwards)
		count[compareTelescopic(t, backwards)]++
	}
	if count[true] < 300 || count[false] < 300 {
		t.Errorf("the test itself is wrong: %v", count)
	}
}

func TestTelescopicPairs(t *testing.T) {
	for a := 1; a <= 60; a += 3 {
		for b := 1; b <= 60; b++ {
			compareTelescopic(t, []int{a, b})
		}
	}
}

// TestTelescopicSemigroups: where the sums are a semigroup, it is symmetric, and
// its greatest gap is the number.
func TestTelescopicSemigroups(t *testing.T) {
	count := 0
	for _, list := range shortLists([]int{1, 4, 6, 7, 9, 10, 15, 21}, 4) {
		s, ok := impl.FromGens(list)
		if !ok || !impl.IsTelescopic(list) {
			continue
		}
		count++
		if impl.FrobeniusOf(s) != impl.TelescopicFrobenius(list) || !impl.IsSymmetric(s) {
			t.Fatalf("%d is telescopic with the number %d, but generates %d with the greatest gap %d", list, impl.TelescopicFrobenius(list), s.Gens, impl.FrobeniusOf(s))
		}
	}
	if count < 300 {
		t.Errorf("the test itself is wrong: only %d", count)
	}
}

func TestGlueCallsLeaveTheirArguments(t *testing.T) {
	for _, a := range append(validGens(), invalidGens()...) {
		for _, b := range append(validGens(), nil, []int{2}) {
			for _, numbers := range [][2]int{{2, 9}, {9, 2}, {5, 4}, {4, 5}, {25, 2}, {61, 2}} {
				x, y := guard(a), guard(b)
				first, second := impl.Semigroup{Gens: x.list}, impl.Semigroup{Gens: y.list}
				impl.GlueOf(first, second, numbers[0], numbers[1])
				impl.GlueFrobenius(first, second, numbers[0], numbers[1])
				x.check(t, "GlueOf or GlueFrobenius", a)
				y.check(t, "GlueOf or GlueFrobenius", b)
			}
		}
	}
	for _, list := range append(shortLists([]int{0, 1, 4, 6, 9, 61}, 3), argumentLists()...) {
		l := guard(list)
		impl.IsTelescopic(l.list)
		impl.TelescopicFrobenius(l.list)
		l.check(t, "IsTelescopic or TelescopicFrobenius", list)
	}
}

func TestGluedSemigroupsAreNewMemory(t *testing.T) {
	for _, a := range [][]int{{1}, {2, 3}, {3, 5}, allFrom(11)} {
		for _, b := range [][]int{{1}, {2, 3}, {3, 5}, allFrom(11)} {
			for _, numbers := range [][2]int{{2, 9}, {9, 2}, {5, 4}, {4, 5}, {23, 2}, {2, 23}} {
				y := guard(b)
				call := func(s impl.Semigroup) []int {
					glued, _ := impl.GlueOf(s, impl.Semigroup{Gens: y.list}, numbers[0], numbers[1])
					return glued.Gens
				}
				checkNewMemory(t, "GlueOf", a, call)
				y.check(t, "GlueOf, or a change of its result,", b)
				x := guard(a)
				got := call(impl.Semigroup{Gens: x.list})
				want := slices.Clone(got)
				scribble(x.whole)
				scribble(y.whole)
				if !slices.Equal(got, want) {
					t.Errorf("GlueOf(%d, %d, %d) gives %d after its arguments were changed; want %d", a, b, numbers, got, want)
				}
			}
		}
	}
}

// TestGluedWithItself passes one list as both semigroups.
func TestGluedWithItself(t *testing.T) {
	for _, gens := range [][]int{{1}, {2, 3}, {3, 4, 5}} {
		for x := 2; x <= 9; x++ {
			for y := 2; y <= 9; y++ {
				g := guard(gens)
				s := impl.Semigroup{Gens: g.list}
				got, ok := impl.GlueOf(s, s, x, y)
				want, greatest, wantOK := gluedByText(gens, gens, x, y)
				if !slices.Equal(got.Gens, want) || ok != wantOK || impl.GlueFrobenius(s, s, x, y) != greatest {
					t.Errorf("GlueOf of %d and itself with %d and %d = %d, %v; want %d", gens, x, y, got.Gens, ok, want)
				}
				g.check(t, "GlueOf", gens)
			}
		}
	}
}
