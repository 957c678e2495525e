package tests

import (
	"math"
	"slices"
	"testing"

	"loop.example/g00595/impl"
)

// Promise 10: the greatest of the least elements of the classes, less the
// modulus, are the pseudo-Frobenius numbers.

// orderByText follows the text of the document for one list of Gens.
type orderByText struct {
	isSemigroup bool
	isElement   []bool
}

func orderOf(gens []int) orderByText {
	if !isSemigroupByText(gens) {
		return orderByText{}
	}
	return orderByText{true, searchedSums(gens, 300)}
}

func (o orderByText) isBelow(a int, b int) bool {
	if !o.isSemigroup || !within(a) || !within(b) || b < a {
		return false
	}
	return b-a >= 200 || o.isElement[b-a]
}

// allow reports whether MaximalOf and MinimalIn do not fail.
func (o orderByText) allow(list []int) bool {
	return o.isSemigroup && !slices.ContainsFunc(list, func(n int) bool { return !within(n) })
}

// maximal holds each number against every other one.
func (o orderByText) maximal(list []int) []int {
	if !o.allow(list) {
		return nil
	}
	set := map[int]bool{}
	for _, n := range list {
		if !slices.ContainsFunc(list, func(other int) bool { return other != n && o.isBelow(n, other) }) {
			set[n] = true
		}
	}
	return inOrder(set)
}

func (o orderByText) minimal(list []int) []int {
	if !o.allow(list) {
		return nil
	}
	set := map[int]bool{}
	for _, n := range list {
		if !slices.ContainsFunc(list, func(other int) bool { return other != n && o.isBelow(other, n) }) {
			set[n] = true
		}
	}
	return inOrder(set)
}

// compareExtremes looks at MaximalOf and MinimalIn for one list.
func compareExtremes(t *testing.T, gens []int, o orderByText, list []int) {
	t.Helper()
	s := impl.Semigroup{Gens: gens}
	if got, want := impl.MaximalOf(s, list), o.maximal(list); !slices.Equal(got, want) {
		t.Fatalf("MaximalOf(%d, %d) = %d; want %d", gens, list, got, want)
	}
	if got, want := impl.MinimalIn(s, list), o.minimal(list); !slices.Equal(got, want) {
		t.Fatalf("MinimalIn(%d, %d) = %d; want %d", gens, list, got, want)
	}
}

func TestIsBelow(t *testing.T) {
	const most = 1000000
	cases := []struct {
		gens []int
		a, b int
		want bool
	}{
		// a equal to b.
		{[]int{3, 5}, 0, 0, true},
		{[]int{3, 5}, 4, 4, true},
		{[]int{3, 5}, -4, -4, true},
		{[]int{3, 5}, most, most, true},
		{[]int{3, 5}, -most, -most, true},
		{[]int{1}, 7, 7, true},
		// Differences that are elements, gaps, and just below and beyond the conductor.
		{[]int{3, 5}, 0, 1, false},
		{[]int{3, 5}, 0, 2, false},
		{[]int{3, 5}, 0, 3, true},
		{[]int{3, 5}, 2, 10, true},
		{[]int{3, 5}, 2, 9, false},
		{[]int{3, 5}, 2, 8, true},
		{[]int{3, 5}, 2, 11, true},
		{[]int{3, 5}, -3, 0, true},
		{[]int{3, 5}, -3, 1, false},
		{[]int{3, 5}, -10, -7, true},
		{[]int{3, 5}, -10, -3, false},
		{[]int{3, 5}, -10, -2, true},
		{[]int{3, 5}, -1, 0, false},
		{[]int{3, 5}, -1, 2, true},
		{[]int{6, 9, 20}, 0, 42, true},
		{[]int{6, 9, 20}, 0, 43, false},
		{[]int{6, 9, 20}, 0, 44, true},
		{[]int{5, 51}, 1, 199, true},
		{[]int{5, 51}, 1, 200, false},
		{[]int{5, 51}, 1, 201, true},
		{[]int{5, 51}, -most, 199 - most, false},
		{[]int{5, 51}, -most, 200 - most, true},
		{[]int{5, 51}, most - 199, most, false},
		{[]int{5, 51}, most - 200, most, true},
		{[]int{2, 3}, 5, 6, false},
		{[]int{2, 3}, 5, 7, true},
		// Without gaps, being below is being at most.
		{[]int{1}, 0, 1, true},
		{[]int{1}, 5, 6, true},
		{[]int{1}, 6, 5, false},
		{[]int{1}, -most, most, true},
		{[]int{1}, most, -most, false},
		// Differences below zero.
		{[]int{3, 5}, 1, 0, false},
		{[]int{3, 5}, 5, 2, false},
		{[]int{3, 5}, 3, 0, false},
		{[]int{3, 5}, 0, -3, false},
		{[]int{3, 5}, 8, 0, false},
		{[]int{3, 5}, 200, 0, false},
		{[]int{3, 5}, 1000, 0, false},
		// The limits of a and b, and one beyond each of them.
		{[]int{3, 5}, -most, most, true},
		{[]int{3, 5}, -most, 0, true},
		{[]int{3, 5}, 0, most, true},
		{[]int{3, 5}, most, -most, false},
		{[]int{3, 5}, most - 3, most, true},
		{[]int{3, 5}, most - 4, most, false},
		{[]int{3, 5}, -most, 3 - most, true},
		{[]int{3, 5}, -most, 4 - most, false},
		{[]int{3, 5}, most - 2, most + 1, false},
		{[]int{3, 5}, 0, most + 1, false},
		{[]int{3, 5}, -most, most + 1, false},
		{[]int{3, 5}, most + 1, most + 1, false},
		{[]int{3, 5}, most + 1, most + 4, false},
		{[]int{3, 5}, -most - 1, -most - 1, false},
		{[]int{3, 5}, -most - 1, 2 - most, false},
		{[]int{3, 5}, -most - 1, 0, false},
		{[]int{3, 5}, -most - 1, most, false},
		{[]int{3, 5}, -most - 4, -most - 1, false},
		{[]int{1}, most, most + 1, false},
		{[]int{1}, -most - 1, -most, false},
		// The least and the greatest integer, of which the difference wraps around.
		{[]int{3, 5}, math.MinInt, math.MinInt, false},
		{[]int{3, 5}, math.MaxInt, math.MaxInt, false},
		{[]int{3, 5}, math.MinInt, math.MaxInt, false},
		{[]int{3, 5}, math.MaxInt, math.MinInt, false},
		{[]int{3, 5}, math.MinInt, 0, false},
		{[]int{3, 5}, 0, math.MaxInt, false},
		{[]int{3, 5}, math.MaxInt, math.MinInt + 2, false},
		{[]int{3, 5}, 1 << 32, 1<<32 + 3, false},
		{[]int{3, 5}, 0, 1<<32 + 3, false},
	}
	for _, c := range cases {
		if byText := orderOf(c.gens).isBelow(c.a, c.b); byText != c.want {
			t.Errorf("the test itself is wrong: %d, %d, %d", c.gens, c.a, c.b)
		}
		if got := impl.IsBelow(impl.Semigroup{Gens: c.gens}, c.a, c.b); got != c.want {
			t.Errorf("IsBelow(%d, %d, %d) = %v; want %v", c.gens, c.a, c.b, got, c.want)
		}
	}
}

// numbersAtLimits are numbers around the limits of chapter 10.
func numbersAtLimits() []int {
	return []int{
		math.MinInt, math.MinInt + 1, math.MinInt + 3, -1<<32 - 3, -1 << 32, -1000004, -1000001, -1000000, -999999, -999997, -999800, -200, -8, -3, -1,
		0, 1, 2, 3, 5, 7, 8, 43, 44, 199, 200, 201, 999800, 999997, 999999, 1000000, 1000001, 1000004, 1 << 32, 1<<32 + 3, math.MaxInt - 3, math.MaxInt - 1, math.MaxInt,
	}
}

func TestIsBelowAtLimits(t *testing.T) {
	for _, gens := range append(someSemigroups(), invalidGens()...) {
		o := orderOf(gens)
		s := impl.Semigroup{Gens: gens}
		for _, a := range numbersAtLimits() {
			for _, b := range numbersAtLimits() {
				if got, want := impl.IsBelow(s, a, b), o.isBelow(a, b); got != want {
					t.Fatalf("IsBelow(%d, %d, %d) = %v; want %v", gens, a, b, got, want)
				}
			}
		}
	}
}

// TestIsBelowTellsTheElements takes every difference up to beyond the
// conductor, from several places.
func TestIsBelowTellsTheElements(t *testing.T) {
	for _, gens := range someSemigroups() {
		o := orderOf(gens)
		s := impl.Semigroup{Gens: gens}
		for _, a := range []int{0, 1, -1, 17, -150, 1000, -1000000, 1000000 - 205} {
			for d := -205; d <= 205; d++ {
				if got, want := impl.IsBelow(s, a, a+d), o.isBelow(a, a+d); got != want {
					t.Fatalf("IsBelow(%d, %d, %d) = %v; want %v", gens, a, a+d, got, want)
				}
			}
		}
	}
}

// TestIsBelowIsAnOrder: no two different numbers are below each other, and what
// is below a number is below all that this is below.
func TestIsBelowIsAnOrder(t *testing.T) {
	for _, gens := range [][]int{{1}, {2, 3}, {3, 5}, {3, 5, 7}, {4, 6, 9}, {5, 7, 9, 11}} {
		s := impl.Semigroup{Gens: gens}
		for a := -9; a <= 15; a++ {
			for b := -9; b <= 15; b++ {
				if a != b && impl.IsBelow(s, a, b) && impl.IsBelow(s, b, a) {
					t.Errorf("%d and %d are below each other in %d", a, b, gens)
				}
				for c := -9; c <= 15; c++ {
					if impl.IsBelow(s, a, b) && impl.IsBelow(s, b, c) && !impl.IsBelow(s, a, c) {
						t.Errorf("%d is below %d, this below %d in %d, and %d is not", a, b, c, gens, a)
					}
				}
			}
		}
	}
}

func TestMaximalOfAndMinimalIn(t *testing.T) {
	cases := []struct{ gens, list, maximal, minimal []int }{
		// The empty list and one number.
		{[]int{3, 5}, nil, nil, nil},
		{[]int{3, 5}, []int{}, nil, nil},
		{[]int{3, 5}, []int{0}, []int{0}, []int{0}},
		{[]int{3, 5}, []int{4}, []int{4}, []int{4}},
		{[]int{3, 5}, []int{-4}, []int{-4}, []int{-4}},
		{[]int{3, 5}, []int{1000000}, []int{1000000}, []int{1000000}},
		{[]int{3, 5}, []int{-1000000}, []int{-1000000}, []int{-1000000}},
		// A number several times.
		{[]int{3, 5}, []int{4, 4}, []int{4}, []int{4}},
		{[]int{3, 5}, []int{0, 0, 0}, []int{0}, []int{0}},
		{[]int{1}, []int{6, 6, 6, 6}, []int{6}, []int{6}},
		{[]int{3, 5}, []int{0, 3, 4, 7, 4}, []int{3, 7}, []int{0, 4}},
		{[]int{3, 5}, []int{7, 7, 3, 3}, []int{3, 7}, []int{3, 7}},
		{[]int{3, 5}, []int{3, 8, 3, 8}, []int{8}, []int{3}},
		{[]int{3, 5}, []int{-1, 2, -1, 2, -1}, []int{2}, []int{-1}},
		// In any order.
		{[]int{3, 5}, []int{0, 3, 4, 7}, []int{3, 7}, []int{0, 4}},
		{[]int{3, 5}, []int{7, 4, 3, 0}, []int{3, 7}, []int{0, 4}},
		{[]int{3, 5}, []int{4, 0, 7, 3}, []int{3, 7}, []int{0, 4}},
		{[]int{3, 5}, []int{3, 7, 0, 4}, []int{3, 7}, []int{0, 4}},
		{[]int{3, 5}, []int{10, 5, 0}, []int{10}, []int{0}},
		// Below zero.
		{[]int{3, 5}, []int{-3, 0}, []int{0}, []int{-3}},
		{[]int{3, 5}, []int{-1, -2, -3, -4}, []int{-3, -2, -1}, []int{-4, -3, -2}},
		{[]int{3, 5}, []int{-8, -1, -10, -5}, []int{-5, -1}, []int{-10, -8}},
		{[]int{3, 5}, []int{2, -2, 0}, []int{-2, 0, 2}, []int{-2, 0, 2}},
		{[]int{3, 5}, []int{3, -2, 0}, []int{3}, []int{-2, 0}},
		// None is below another.
		{[]int{3, 5}, []int{0, 1, 2}, []int{0, 1, 2}, []int{0, 1, 2}},
		{[]int{3, 5}, []int{7, 0}, []int{0, 7}, []int{0, 7}},
		{[]int{2, 3}, []int{9, 8}, []int{8, 9}, []int{8, 9}},
		{[]int{6, 9, 20}, []int{44, 1, 43, 0}, []int{43, 44}, []int{0, 1}},
		{[]int{6, 9, 20}, []int{43, 0}, []int{0, 43}, []int{0, 43}},
		{[]int{5, 51}, []int{199, 0}, []int{0, 199}, []int{0, 199}},
		{[]int{17, 23, 54}, []int{198, 0, 167}, []int{0, 167, 198}, []int{0, 167, 198}},
		{[]int{5, 51}, []int{0, 98, 199, 97}, []int{0, 199}, []int{0, 97, 98}},
		{numbersFrom(12, 23), numbersFrom(5, 16), numbersFrom(5, 16), numbersFrom(5, 16)},
		// All are below one another.
		{[]int{3, 5}, []int{0, 3, 6, 9}, []int{9}, []int{0}},
		{[]int{3, 5}, []int{0, 3, 8, 16, 26}, []int{26}, []int{0}},
		{[]int{1}, []int{4, 1, 3, 2}, []int{4}, []int{1}},
		{[]int{1}, []int{1000000, -1000000, 0}, []int{1000000}, []int{-1000000}},
		{[]int{5, 51}, []int{0, 200}, []int{200}, []int{0}},
		{numbersFrom(12, 23), numbersFrom(5, 17), numbersFrom(6, 17), numbersFrom(5, 16)},
		// Some are below several, and some below one that is below another.
		{[]int{3, 5}, numbersFrom(0, 10), []int{8, 9, 10}, []int{0, 1, 2}},
		{[]int{4, 6, 9}, []int{0, 4, 8, 11, 12, 1}, []int{11, 12}, []int{0, 1}},
		// The limits, and one more of each.
		{[]int{3, 5}, []int{1000000, -1000000}, []int{1000000}, []int{-1000000}},
		{[]int{3, 5}, []int{999996, 1000000}, []int{999996, 1000000}, []int{999996, 1000000}},
		{[]int{3, 5}, []int{-1000000, -999993}, []int{-1000000, -999993}, []int{-1000000, -999993}},
		{[]int{3, 5}, []int{1000001}, nil, nil},
		{[]int{3, 5}, []int{-1000001}, nil, nil},
		{[]int{3, 5}, []int{0, 1000001}, nil, nil},
		{[]int{3, 5}, []int{-1000001, 0}, nil, nil},
		{[]int{3, 5}, []int{0, 3, 1000001, 4}, nil, nil},
		{[]int{3, 5}, []int{math.MinInt, math.MaxInt}, nil, nil},
	}
	for _, c := range cases {
		o := orderOf(c.gens)
		if !slices.Equal(o.maximal(c.list), c.maximal) || !slices.Equal(o.minimal(c.list), c.minimal) {
			t.Errorf("the test itself is wrong: %d, %d: %d, %d", c.gens, c.list, o.maximal(c.list), o.minimal(c.list))
		}
		s := impl.Semigroup{Gens: c.gens}
		if got := impl.MaximalOf(s, c.list); !slices.Equal(got, c.maximal) {
			t.Errorf("MaximalOf(%d, %d) = %d; want %d", c.gens, c.list, got, c.maximal)
		}
		if got := impl.MinimalIn(s, c.list); !slices.Equal(got, c.minimal) {
			t.Errorf("MinimalIn(%d, %d) = %d; want %d", c.gens, c.list, got, c.minimal)
		}
	}
}

// TestExtremesOfShortLists takes the lists in every order, with repetitions.
func TestExtremesOfShortLists(t *testing.T) {
	for _, gens := range [][]int{{1}, {2, 3}, {3, 5}, {3, 5, 7}, {4, 5, 6, 7}, {5, 7, 9, 11}} {
		o := orderOf(gens)
		for _, list := range shortLists(numbersFrom(-2, 5), 4) {
			compareExtremes(t, gens, o, list)
		}
	}
}

// TestExtremesAtLimits puts each number at the limits first, last and between.
func TestExtremesAtLimits(t *testing.T) {
	for _, gens := range [][]int{{1}, {3, 5}, {5, 51}, {17, 23, 54}, nil, {2}, {5, 3}} {
		o := orderOf(gens)
		for _, x := range numbersAtLimits() {
			for _, y := range numbersAtLimits() {
				compareExtremes(t, gens, o, []int{x, y})
				compareExtremes(t, gens, o, []int{x, 2, 9, y})
				compareExtremes(t, gens, o, []int{9, x, y, 2})
			}
			compareExtremes(t, gens, o, []int{x})
			compareExtremes(t, gens, o, []int{x, 0, 3, 4, 7})
			compareExtremes(t, gens, o, []int{0, 3, 4, 7, x})
			compareExtremes(t, gens, o, []int{0, 3, x, 4, 7})
		}
	}
}

// TestExtremesOfSomeSemigroups takes lists in steps of several widths, which
// are neither in ascending nor in descending order.
func TestExtremesOfSomeSemigroups(t *testing.T) {
	for _, gens := range someSemigroups() {
		o := orderOf(gens)
		for _, count := range []int{1, 2, 10, 61, 150} {
			for _, step := range []int{0, 1, 3, 37, 101, 150, 999} {
				var list []int
				for i := range count {
					list = append(list, (i*step+7)%263-90)
				}
				compareExtremes(t, gens, o, list)
			}
		}
		compareExtremes(t, gens, o, elementsByText(gens, 250))
		compareExtremes(t, gens, o, gapFactsByText(gens).gaps)
		compareExtremes(t, gens, o, gens)
	}
}

// TestExtremesOfLongLists has no limit for the length of a list.
func TestExtremesOfLongLists(t *testing.T) {
	s := impl.Semigroup{Gens: []int{3, 5}}
	list := numbersFrom(-100000, 100000)
	for i := range list {
		j := i * 7919 % len(list)
		list[i], list[j] = list[j], list[i]
	}
	if got := impl.MaximalOf(s, list); !slices.Equal(got, []int{99998, 99999, 100000}) {
		t.Errorf("MaximalOf a long list = %d", got)
	}
	if got := impl.MinimalIn(s, list); !slices.Equal(got, []int{-100000, -99999, -99998}) {
		t.Errorf("MinimalIn a long list = %d", got)
	}
	same := slices.Repeat([]int{5}, 200000)
	if got := impl.MaximalOf(s, same); !slices.Equal(got, []int{5}) {
		t.Errorf("MaximalOf a number many times = %d", got)
	}
	if got := impl.MinimalIn(s, append(same, 1000001)); len(got) > 0 {
		t.Errorf("MinimalIn a list that ends with 1000001 = %d", got)
	}
}

// exceedingByText takes the AperySet, and what no other number of it is above,
// by their texts.
func exceedingByText(gens []int, n int) []int {
	var list []int
	for _, x := range orderOf(gens).maximal(aperyByText(gens, n)) {
		list = append(list, x-n)
	}
	return list
}

func TestExceedingOf(t *testing.T) {
	cases := []struct {
		gens []int
		n    int
		want []int
	}{
		{[]int{3, 5}, 3, []int{7}},
		{[]int{3, 5}, 5, []int{7}},
		{[]int{3, 5}, 8, []int{7}},
		{[]int{3, 5}, 60, []int{7}},
		{[]int{3, 4, 5}, 3, []int{1, 2}},
		{[]int{3, 4, 5}, 4, []int{1, 2}},
		{[]int{3, 4, 5}, 60, []int{1, 2}},
		{[]int{2, 3}, 2, []int{1}},
		{[]int{2, 3}, 3, []int{1}},
		{[]int{4, 5, 6, 7}, 4, []int{1, 2, 3}},
		{[]int{7, 17, 60}, 7, []int{53, 78}},
		{[]int{7, 17, 60}, 60, []int{53, 78}},
		{[]int{17, 23, 54}, 54, []int{167, 198}},
		{[]int{5, 51}, 51, []int{199}},
		{[]int{6, 9, 20}, 6, []int{43}},
		{numbersFrom(12, 23), 12, numbersFrom(1, 11)},
		{numbersFrom(12, 23), 60, numbersFrom(1, 11)},
		{greatestMultiplicity(), 48, append([]int{54}, numbersFrom(181, 191)...)},
		// The semigroup without gaps.
		{[]int{1}, 1, []int{-1}},
		{[]int{1}, 2, []int{-1}},
		{[]int{1}, 4, []int{-1}},
		{[]int{1}, 60, []int{-1}},
		{[]int{1}, 61, nil},
		{[]int{1}, 0, nil},
		{[]int{1}, -1, nil},
		// Moduli that are no positive element up to MaxGen.
		{[]int{3, 5}, 1, nil},
		{[]int{3, 5}, 4, nil},
		{[]int{3, 5}, 7, nil},
		{[]int{3, 5}, 0, nil},
		{[]int{3, 5}, -1, nil},
		{[]int{3, 5}, -3, nil},
		{[]int{3, 5}, 61, nil},
		{[]int{3, 5}, 200, nil},
		{[]int{3, 5}, 1<<32 + 3, nil},
		{[]int{3, 5}, math.MinInt, nil},
		{[]int{3, 5}, math.MaxInt, nil},
		{[]int{5, 51}, 59, nil},
		// No semigroup.
		{nil, 1, nil},
		{[]int{2}, 2, nil},
		{[]int{5, 3}, 3, nil},
		{[]int{3, 5, 8}, 3, nil},
	}
	for _, c := range cases {
		if byText := exceedingByText(c.gens, c.n); !slices.Equal(byText, c.want) {
			t.Errorf("the test itself is wrong: %d, %d: %d", c.gens, c.n, byText)
		}
		if got := impl.ExceedingOf(impl.Semigroup{Gens: c.gens}, c.n); !slices.Equal(got, c.want) {
			t.Errorf("ExceedingOf(%d, %d) = %d; want %d", c.gens, c.n, got, c.want)
		}
	}
}

// compareExceeding also holds ExceedingOf against PseudoFrobenius, and tells
// whether AperySet gives a set.
func compareExceeding(t *testing.T, gens []int, n int) bool {
	t.Helper()
	s := impl.Semigroup{Gens: gens}
	got := impl.ExceedingOf(s, n)
	if want := exceedingByText(gens, n); !slices.Equal(got, want) {
		t.Fatalf("ExceedingOf(%d, %d) = %d; want %d", gens, n, got, want)
	}
	if aperyByText(gens, n) == nil {
		return false
	}
	want := impl.PseudoFrobenius(s)
	if len(want) == 0 {
		want = []int{-1}
	}
	if !slices.Equal(got, want) {
		t.Fatalf("ExceedingOf(%d, %d) = %d, but PseudoFrobenius is %d", gens, n, got, impl.PseudoFrobenius(s))
	}
	return true
}

func TestExceedingOfSomeSemigroups(t *testing.T) {
	for _, gens := range someSemigroups() {
		count := 0
		for _, n := range moduli() {
			if compareExceeding(t, gens, n) {
				count++
			}
		}
		if want := len(elementsByText(gens, 60)) - 1; count != want {
			t.Errorf("ExceedingOf %d gives %d lists; want one for each of %d positive elements", gens, count, want)
		}
	}
}

// TestExceedingOfSubsets takes all semigroups with generators up to 10.
func TestExceedingOfSubsets(t *testing.T) {
	for set := range 1 << 10 {
		var list []int
		for g := 1; g <= 10; g++ {
			if set>>(g-1)&1 == 1 {
				list = append(list, g)
			}
		}
		if isSemigroupByText(list) {
			for n := -1; n <= 20; n++ {
				compareExceeding(t, list, n)
			}
		}
	}
}

func TestOrderOfNoSemigroup(t *testing.T) {
	for _, gens := range append(invalidGens(), []int{48, 60}, []int{1, 1}) {
		s := impl.Semigroup{Gens: gens}
		for _, a := range []int{-1000000, -3, 0, 1, 7, 1000000} {
			for _, b := range []int{-1000000, -3, 0, 1, 7, 1000000} {
				if impl.IsBelow(s, a, b) {
					t.Errorf("IsBelow(%d, %d, %d), of no semigroup, is true", gens, a, b)
				}
				if list := []int{a, b, 5}; len(impl.MaximalOf(s, list)) > 0 || len(impl.MinimalIn(s, list)) > 0 {
					t.Errorf("MaximalOf and MinimalIn of %d, which is no semigroup, and %d give numbers", gens, list)
				}
			}
		}
		for _, n := range moduli() {
			if got := impl.ExceedingOf(s, n); len(got) > 0 {
				t.Errorf("ExceedingOf(%d, %d), of no semigroup, = %d", gens, n, got)
			}
		}
	}
}

func orderCalls() map[string]func(s impl.Semigroup, list []int) []int {
	return map[string]func(s impl.Semigroup, list []int) []int{
		"IsBelow": func(s impl.Semigroup, list []int) []int {
			impl.IsBelow(s, 2, 10)
			impl.IsBelow(s, 2, math.MaxInt)
			return nil
		},
		"MaximalOf":                 impl.MaximalOf,
		"MinimalIn":                 impl.MinimalIn,
		"ExceedingOf":               func(s impl.Semigroup, list []int) []int { return impl.ExceedingOf(s, impl.MultiplicityOf(s)) },
		"ExceedingOf, which fails,": func(s impl.Semigroup, list []int) []int { return impl.ExceedingOf(s, -1) },
	}
}

// orderedLists are lists to be left as they are.
func orderedLists() [][]int {
	return [][]int{
		nil, {0}, {4, 4}, {7, 0, 4, 3}, {0, 3, 4, 7, 4}, {9, 6, 3, 0}, {2, -2, 0, -2}, {1000000, -1000000}, {3, 1000001, 1}, {math.MinInt, 5, 2},
		numbersFrom(-30, 60), slices.Repeat([]int{8, 5, 1}, 50),
	}
}

func TestOrderCallsLeaveTheirArguments(t *testing.T) {
	for name, call := range orderCalls() {
		for _, gens := range append(someSemigroups(), invalidGens()...) {
			for _, list := range orderedLists() {
				g, l := guard(gens), guard(list)
				call(impl.Semigroup{Gens: g.list}, l.list)
				g.check(t, name, gens)
				l.check(t, name, list)
			}
		}
	}
}

func TestOrderResultsAreNewMemory(t *testing.T) {
	for name, call := range orderCalls() {
		for _, gens := range someSemigroups() {
			for _, list := range orderedLists() {
				l := guard(list)
				checkNewMemory(t, name, gens, func(s impl.Semigroup) []int { return call(s, l.list) })
				l.check(t, name+", or a change of its result,", list)
				s := impl.Semigroup{Gens: gens}
				got := call(s, l.list)
				want := slices.Clone(got)
				scribble(l.whole)
				if !slices.Equal(got, want) {
					t.Errorf("%s of %d and %d gives %d after its list was changed; want %d", name, gens, list, got, want)
				}
			}
		}
	}
}
