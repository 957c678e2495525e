package tests

import (
	"math"
	"slices"
	"testing"

	"loop.example/g00595/impl"
)

// Promise 17: a number is in a quotient exactly if its product is in the
// semigroup.

// gapsByText returns the numbers from 1 to 199 that are not accepted.
func gapsByText(isElement func(n int) bool) []int {
	var gaps []int
	for n := 1; n < 200; n++ {
		if !isElement(n) {
			gaps = append(gaps, n)
		}
	}
	return gaps
}

func quotientByText(gens []int, d int) ([]int, bool) {
	if !isSemigroupByText(gens) || d < 1 || d > 20 {
		return nil, false
	}
	isElement := searchedSums(gens, 4000)
	return fromGapsByText(gapsByText(func(n int) bool { return isElement[n*d] }))
}

// neededForQuotient returns the numbers of the quotient that are no sums of
// others, also if there are too many.
func neededForQuotient(gens []int, d int) []int {
	isElement := searchedSums(gens, 8000)
	var needed []int
	for n := 1; n <= 400; n++ {
		isSum := false
		for x := 1; x < n; x++ {
			isSum = isSum || isElement[x*d] && isElement[(n-x)*d]
		}
		if isElement[n*d] && !isSum {
			needed = append(needed, n)
		}
	}
	return needed
}

func scaledByText(gens []int, d int, most int) []int {
	if !isSemigroupByText(gens) || d < 1 || d > 20 || most < 0 || most > 200 {
		return nil
	}
	var list []int
	for _, n := range elementsByText(gens, most) {
		list = append(list, n*d)
	}
	return list
}

// divisors are numbers around the limits of d.
func divisors() []int {
	return append(numbersFrom(-2, 22), math.MinInt, math.MinInt+1, -1<<32, -20, 60, 100, 199, 200, 201, 1<<32, 1<<32+2, 1<<32+20, 1<<62, math.MaxInt-1, math.MaxInt)
}

// compareQuotient also looks at every number up to beyond the conductor, and
// tells whether there is a quotient.
func compareQuotient(t *testing.T, gens []int, d int) bool {
	t.Helper()
	s := impl.Semigroup{Gens: gens}
	got, ok := impl.QuotientOf(s, d)
	want, wantOK := quotientByText(gens, d)
	if !slices.Equal(got.Gens, want) || ok != wantOK {
		t.Fatalf("QuotientOf(%d, %d) = %d, %v; want %d, %v", gens, d, got.Gens, ok, want, wantOK)
	}
	if !ok {
		return false
	}
	for n := -3; n <= 260; n++ {
		if impl.Contains(got, n) != impl.Contains(s, n*d) {
			t.Fatalf("QuotientOf(%d, %d) = %d, but %d and its product do not agree", gens, d, got.Gens, n)
		}
	}
	return true
}

func TestQuotientOf(t *testing.T) {
	cases := []struct {
		gens   []int
		d      int
		want   []int
		wantOK bool
	}{
		{[]int{3, 5}, 1, []int{3, 5}, true},
		{[]int{3, 5}, 2, []int{3, 4, 5}, true},
		{[]int{4, 6, 9}, 1, []int{4, 6, 9}, true},
		{[]int{4, 6, 9}, 2, []int{2, 3}, true},
		{[]int{4, 6, 9}, 3, []int{2, 3}, true},
		{[]int{6, 9, 20}, 2, []int{3, 10}, true},
		{[]int{6, 9, 20}, 3, []int{2, 3}, true},
		{[]int{5, 51}, 1, []int{5, 51}, true},
		{[]int{5, 51}, 2, []int{5, 28, 51}, true},
		{[]int{5, 51}, 17, []int{3, 5}, true},
		{numbersFrom(12, 23), 1, numbersFrom(12, 23), true},
		{numbersFrom(12, 23), 2, numbersFrom(6, 11), true},
		// A divisor that is an element: no gaps.
		{[]int{3, 5}, 3, []int{1}, true},
		{[]int{3, 5}, 5, []int{1}, true},
		{[]int{3, 5}, 6, []int{1}, true},
		{[]int{5, 51}, 20, []int{1}, true},
		{numbersFrom(12, 23), 12, []int{1}, true},
		// One that is none.
		{[]int{3, 5}, 4, []int{2, 3}, true},
		{[]int{5, 51}, 18, []int{5, 7, 9, 11, 13}, true},
		{[]int{5, 51}, 19, []int{4, 5, 11}, true},
		// At the conductor, one below it and beyond it.
		{[]int{3, 5}, 7, []int{2, 3}, true},
		{[]int{3, 5}, 8, []int{1}, true},
		{[]int{3, 5}, 9, []int{1}, true},
		{[]int{3, 5}, 20, []int{1}, true},
		{[]int{4, 6, 9}, 11, []int{2, 3}, true},
		{[]int{4, 6, 9}, 12, []int{1}, true},
		{[]int{4, 6, 9}, 13, []int{1}, true},
		{[]int{3, 10, 11}, 8, []int{2, 3}, true},
		{[]int{2, 3}, 1, []int{2, 3}, true},
		{[]int{2, 3}, 2, []int{1}, true},
		// The semigroup without gaps.
		{[]int{1}, 1, []int{1}, true},
		{[]int{1}, 2, []int{1}, true},
		{[]int{1}, 20, []int{1}, true},
		{[]int{1}, 21, nil, false},
		{[]int{1}, 0, nil, false},
		// Just as many Gens as there may be, and too many.
		{[]int{34, 43, 47, 51, 53, 56, 58}, 4, []int{14, 17, 23, 24, 25, 26, 29, 30, 32, 33, 35, 36}, true},
		{[]int{22, 25, 40, 41, 54}, 3, []int{18, 21, 22, 23, 24, 25, 27, 28, 29, 30, 34, 35}, true},
		{[]int{13, 18, 28}, 5, nil, false},
		{[]int{13, 19, 25}, 6, nil, false},
		{[]int{13, 18, 28}, 1, []int{13, 18, 28}, true},
		// d beyond its limits.
		{[]int{3, 5}, 0, nil, false},
		{[]int{3, 5}, 21, nil, false},
		{[]int{3, 5}, 200, nil, false},
		{[]int{3, 5}, -1, nil, false},
		{[]int{3, 5}, -3, nil, false},
		{[]int{3, 5}, 1<<32 + 3, nil, false},
		{[]int{3, 5}, math.MinInt, nil, false},
		{[]int{3, 5}, math.MaxInt, nil, false},
		// No semigroup.
		{nil, 1, nil, false},
		{[]int{0}, 1, nil, false},
		{[]int{2}, 2, nil, false},
		{[]int{5, 3}, 3, nil, false},
		{[]int{3, 5, 8}, 2, nil, false},
		{[]int{2, 61}, 2, nil, false},
	}
	for _, c := range cases {
		if byText, ok := quotientByText(c.gens, c.d); !slices.Equal(byText, c.want) || ok != c.wantOK {
			t.Errorf("the test itself is wrong: %d, %d: %d, %v", c.gens, c.d, byText, ok)
		}
		got, ok := impl.QuotientOf(impl.Semigroup{Gens: c.gens}, c.d)
		if !slices.Equal(got.Gens, c.want) || ok != c.wantOK {
			t.Errorf("QuotientOf(%d, %d) = %d, %v; want %d, %v", c.gens, c.d, got.Gens, ok, c.want, c.wantOK)
		}
	}
}

// rejectedQuotients have too many Gens, which are numbers up to 60.
func rejectedQuotients() map[int][]int { return map[int][]int{5: {13, 18, 28}, 6: {13, 19, 25}} }

func TestQuotientsWithTooManyGens(t *testing.T) {
	for d, gens := range rejectedQuotients() {
		if needed := neededForQuotient(gens, d); !slices.Equal(needed, numbersFrom(13, 25)) {
			t.Errorf("the test itself is wrong: %d, %d: %d", gens, d, needed)
		}
		if compareQuotient(t, gens, d) {
			t.Errorf("QuotientOf(%d, %d) has more than 12 Gens", gens, d)
		}
	}
}

func TestQuotientOfSomeSemigroups(t *testing.T) {
	for _, gens := range append(factoredSemigroups(), invalidGens()...) {
		for _, d := range divisors() {
			compareQuotient(t, gens, d)
		}
	}
}

// TestQuotientOfTriples also finds out why there is no quotient: it is never
// because of a generator beyond 60, as among d generators of the semigroup some
// add up to a multiple of d.
func TestQuotientOfTriples(t *testing.T) {
	rejected := 0
	for a := 13; a <= 19; a += 2 {
		for b := a + 1; b <= 40; b += 2 {
			for c := b + 1; c <= 60; c += 5 {
				gens := []int{a, b, c}
				if !isSemigroupByText(gens) {
					continue
				}
				for d := 2; d <= 20; d++ {
					if compareQuotient(t, gens, d) {
						continue
					}
					rejected++
					if needed := neededForQuotient(gens, d); len(needed) <= 12 || slices.Max(needed) > 60 {
						t.Fatalf("QuotientOf(%d, %d) fails, but needs only %d", gens, d, needed)
					}
				}
			}
		}
	}
	if rejected < 5 {
		t.Errorf("the test itself is wrong: only %d", rejected)
	}
}

// TestQuotientOfSubsets takes all lists of different numbers up to 9, those of
// no semigroup included.
func TestQuotientOfSubsets(t *testing.T) {
	for set := range 1 << 9 {
		var list []int
		for g := 1; g <= 9; g++ {
			if set>>(g-1)&1 == 1 {
				list = append(list, g)
			}
		}
		for d := 0; d <= 21; d++ {
			compareQuotient(t, list, d)
		}
	}
}

// TestQuotientOfQuotients divides by one number and then by another.
func TestQuotientOfQuotients(t *testing.T) {
	for _, gens := range someSemigroups() {
		s := impl.Semigroup{Gens: gens}
		for a := 1; a <= 20; a++ {
			first, ok := impl.QuotientOf(s, a)
			if !ok {
				continue
			}
			for b := 1; a*b <= 20; b++ {
				second, okSecond := impl.QuotientOf(first, b)
				direct, okDirect := impl.QuotientOf(s, a*b)
				if !slices.Equal(second.Gens, direct.Gens) || okSecond != okDirect {
					t.Fatalf("%d divided by %d and %d is %d, but by the product %d", gens, a, b, second.Gens, direct.Gens)
				}
			}
		}
	}
}

func TestScaledElements(t *testing.T) {
	cases := []struct {
		gens    []int
		d, most int
		want    []int
	}{
		{[]int{3, 5}, 2, 9, []int{0, 6, 10, 12, 16, 18}},
		{[]int{3, 5}, 1, 9, []int{0, 3, 5, 6, 8, 9}},
		{[]int{3, 5}, 20, 9, []int{0, 60, 100, 120, 160, 180}},
		// Elements that are just most, and just one more.
		{[]int{3, 5}, 2, 0, []int{0}},
		{[]int{3, 5}, 2, 2, []int{0}},
		{[]int{3, 5}, 2, 3, []int{0, 6}},
		{[]int{3, 5}, 2, 4, []int{0, 6}},
		{[]int{3, 5}, 2, 7, []int{0, 6, 10, 12}},
		{[]int{3, 5}, 2, 8, []int{0, 6, 10, 12, 16}},
		// Products that are just most, and just one more: it is the elements that are at most most.
		{[]int{3, 5}, 2, 6, []int{0, 6, 10, 12}},
		{[]int{3, 5}, 2, 5, []int{0, 6, 10}},
		{[]int{3, 5}, 2, 10, []int{0, 6, 10, 12, 16, 18, 20}},
		{[]int{3, 5}, 3, 9, []int{0, 9, 15, 18, 24, 27}},
		{[]int{3, 5}, 3, 8, []int{0, 9, 15, 18, 24}},
		{[]int{6, 9, 20}, 7, 20, []int{0, 42, 63, 84, 105, 126, 140}},
		// The semigroup without gaps.
		{[]int{1}, 5, 3, []int{0, 5, 10, 15}},
		{[]int{1}, 1, 0, []int{0}},
		{[]int{1}, 1, 200, numbersFrom(0, 200)},
		{[]int{1}, 20, 201, nil},
		// MaxConductor and one more, and a conductor there.
		{[]int{5, 51}, 1, 4, []int{0}},
		{[]int{5, 51}, 2, 55, []int{0, 10, 20, 30, 40, 50, 60, 70, 80, 90, 100, 102, 110}},
		{numbersFrom(12, 23), 1, 200, append([]int{0}, numbersFrom(12, 200)...)},
		{[]int{3, 5}, 2, 201, nil},
		{[]int{3, 5}, 2, 1000, nil},
		{[]int{3, 5}, 2, -1, nil},
		{[]int{3, 5}, 2, -9, nil},
		{[]int{3, 5}, 2, 1<<32 + 9, nil},
		{[]int{3, 5}, 2, math.MinInt, nil},
		{[]int{3, 5}, 2, math.MaxInt, nil},
		// d of 0, 21 and beyond.
		{[]int{3, 5}, 0, 9, nil},
		{[]int{3, 5}, 21, 9, nil},
		{[]int{3, 5}, -1, 9, nil},
		{[]int{3, 5}, 1<<32 + 2, 9, nil},
		{[]int{3, 5}, math.MinInt, 9, nil},
		{[]int{3, 5}, math.MaxInt, 9, nil},
		{[]int{3, 5}, 0, 201, nil},
		// No semigroup.
		{nil, 1, 9, nil},
		{[]int{2}, 1, 9, nil},
		{[]int{5, 3}, 1, 9, nil},
		{[]int{3, 5, 8}, 1, 9, nil},
	}
	for _, c := range cases {
		if byText := scaledByText(c.gens, c.d, c.most); !slices.Equal(byText, c.want) {
			t.Errorf("the test itself is wrong: %d, %d, %d: %d", c.gens, c.d, c.most, byText)
		}
		if got := impl.ScaledElements(impl.Semigroup{Gens: c.gens}, c.d, c.most); !slices.Equal(got, c.want) {
			t.Errorf("ScaledElements(%d, %d, %d) = %d; want %d", c.gens, c.d, c.most, got, c.want)
		}
	}
}

func TestScaledElementsOfSomeSemigroups(t *testing.T) {
	for _, gens := range append(factoredSemigroups(), invalidGens()...) {
		s := impl.Semigroup{Gens: gens}
		for _, d := range divisors() {
			mosts := []int{math.MinInt, -1, 0, 1, 9, 60, 199, 200, 201, 1 << 32, math.MaxInt}
			if d == 3 {
				mosts = numbersFrom(-1, 203)
			}
			for _, most := range mosts {
				if got, want := impl.ScaledElements(s, d, most), scaledByText(gens, d, most); !slices.Equal(got, want) {
					t.Fatalf("ScaledElements(%d, %d, %d) = %d; want %d", gens, d, most, got, want)
				}
			}
		}
	}
}

func quotientCalls() map[string]func(s impl.Semigroup) []int {
	quotient := func(d int) func(s impl.Semigroup) []int {
		return func(s impl.Semigroup) []int {
			q, _ := impl.QuotientOf(s, d)
			return q.Gens
		}
	}
	return map[string]func(s impl.Semigroup) []int{
		"QuotientOf by 1":              quotient(1),
		"QuotientOf by 2":              quotient(2),
		"QuotientOf by 5":              quotient(5),
		"QuotientOf by 20":             quotient(20),
		"QuotientOf by 21":             quotient(21),
		"ScaledElements":               func(s impl.Semigroup) []int { return impl.ScaledElements(s, 3, 80) },
		"ScaledElements by 1":          func(s impl.Semigroup) []int { return impl.ScaledElements(s, 1, 200) },
		"ScaledElements, which fails,": func(s impl.Semigroup) []int { return impl.ScaledElements(s, 3, 201) },
	}
}

func TestQuotientsOfNoSemigroup(t *testing.T) {
	for _, gens := range append(invalidGens(), []int{48, 60}, []int{1, 1}) {
		s := impl.Semigroup{Gens: gens}
		for _, d := range divisors() {
			if q, ok := impl.QuotientOf(s, d); len(q.Gens) > 0 || ok {
				t.Errorf("QuotientOf(%d, %d), of no semigroup, = %d, %v", gens, d, q.Gens, ok)
			}
			for _, most := range []int{-1, 0, 9, 200, 201} {
				if got := impl.ScaledElements(s, d, most); len(got) > 0 {
					t.Errorf("ScaledElements(%d, %d, %d), of no semigroup, = %d", gens, d, most, got)
				}
			}
		}
	}
}

func checkCallsLeaveGens[R any](t *testing.T, calls map[string]func(s impl.Semigroup) R, lists [][]int) {
	t.Helper()
	for name, call := range calls {
		for _, gens := range lists {
			g := guard(gens)
			call(impl.Semigroup{Gens: g.list})
			g.check(t, name, gens)
		}
	}
}

// checkCallsGiveNewMemory also changes the argument of a call whose result is
// looked at afterwards.
func checkCallsGiveNewMemory(t *testing.T, calls map[string]func(s impl.Semigroup) []int, lists [][]int) {
	t.Helper()
	for name, call := range calls {
		for _, gens := range lists {
			checkNewMemory(t, name, gens, call)
			g := guard(gens)
			got := call(impl.Semigroup{Gens: g.list})
			want := slices.Clone(got)
			scribble(g.whole)
			if !slices.Equal(got, want) {
				t.Errorf("%s of %d gives %d after Gens were changed; want %d", name, gens, got, want)
			}
		}
	}
}

func TestQuotientCallsLeaveGens(t *testing.T) {
	checkCallsLeaveGens(t, quotientCalls(), append(factoredSemigroups(), invalidGens()...))
}

func TestQuotientResultsAreNewMemory(t *testing.T) {
	checkCallsGiveNewMemory(t, quotientCalls(), factoredSemigroups())
}
