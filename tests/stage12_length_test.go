package tests

import (
	"math"
	"slices"
	"testing"

	"loop.example/g00595/impl"
)

// Promise 12: differences of lengths are multiples of the common divisor of the
// differences of generators.

// lengthFacts is what chapter 12 says of a number.
type lengthFacts struct {
	lengths, deltas []int
	most, least     int
}

// lengthFactsByText follows the text of the document.
func lengthFactsByText(gens []int, n int) lengthFacts {
	lengths, deltas := map[int]bool{}, map[int]bool{}
	for _, list := range factorizationsByText(gens, n) {
		length := 0
		for _, count := range list {
			length += count
		}
		lengths[length] = true
	}
	facts := lengthFacts{lengths: inOrder(lengths)}
	for i, length := range facts.lengths {
		if i > 0 {
			deltas[length-facts.lengths[i-1]] = true
		}
	}
	facts.deltas = inOrder(deltas)
	if n > 0 && len(facts.lengths) > 0 {
		facts.most, facts.least = reducedByText(facts.lengths[len(facts.lengths)-1], facts.lengths[0])
	}
	return facts
}

// reducedByText divides both by each number that divides both, for numbers from
// 1 on.
func reducedByText(a int, b int) (int, int) {
	for d := min(a, b); d > 1; d-- {
		if a%d == 0 && b%d == 0 {
			return a / d, b / d
		}
	}
	return a, b
}

func deltaSetByText(gens []int, most int) []int {
	set := map[int]bool{}
	if most >= 0 && most <= 100 {
		for n := 0; n <= most; n++ {
			for _, d := range lengthFactsByText(gens, n).deltas {
				set[d] = true
			}
		}
	}
	return inOrder(set)
}

func lengthFactsOf(gens []int, n int) lengthFacts {
	s := impl.Semigroup{Gens: gens}
	most, least := impl.ElasticityOf(s, n)
	return lengthFacts{impl.LengthsOf(s, n), impl.DeltaOf(s, n), most, least}
}

func (f lengthFacts) equals(g lengthFacts) bool {
	return slices.Equal(f.lengths, g.lengths) && slices.Equal(f.deltas, g.deltas) && f.most == g.most && f.least == g.least
}

// compareLengths looks at the functions of chapter 12 for one number.
func compareLengths(t *testing.T, gens []int, n int) lengthFacts {
	t.Helper()
	got, want := lengthFactsOf(gens, n), lengthFactsByText(gens, n)
	if !got.equals(want) {
		t.Fatalf("the lengths, their differences and the elasticity of %d in %d are %v; want %v", n, gens, got, want)
	}
	return got
}

// divisorOfDifferences is the greatest number that divides all differences of
// gens; 0 if there are none.
func divisorOfDifferences(gens []int) int {
	for d := gens[len(gens)-1] - gens[0]; d > 0; d-- {
		if !slices.ContainsFunc(gens, func(g int) bool { return (g-gens[0])%d != 0 }) {
			return d
		}
	}
	return 0
}

func TestLengthsOf(t *testing.T) {
	cases := []struct {
		gens []int
		n    int
		want lengthFacts
	}{
		// The number 0, which has the length 0.
		{[]int{3, 5}, 0, lengthFacts{[]int{0}, nil, 0, 0}},
		{[]int{1}, 0, lengthFacts{[]int{0}, nil, 0, 0}},
		{numbersFrom(12, 23), 0, lengthFacts{[]int{0}, nil, 0, 0}},
		// Gaps.
		{[]int{3, 5}, 1, lengthFacts{}},
		{[]int{3, 5}, 7, lengthFacts{}},
		{[]int{6, 9, 20}, 43, lengthFacts{}},
		{[]int{5, 51}, 99, lengthFacts{}},
		// One length, of one factorization or of several.
		{[]int{3, 5}, 3, lengthFacts{[]int{1}, nil, 1, 1}},
		{[]int{3, 5}, 8, lengthFacts{[]int{2}, nil, 1, 1}},
		{[]int{3, 5}, 14, lengthFacts{[]int{4}, nil, 1, 1}},
		{[]int{3, 4, 5}, 8, lengthFacts{[]int{2}, nil, 1, 1}},
		{[]int{3, 4, 5}, 9, lengthFacts{[]int{2, 3}, []int{1}, 3, 2}},
		{[]int{4, 5, 6, 7}, 11, lengthFacts{[]int{2}, nil, 1, 1}},
		{[]int{5, 7, 9, 11}, 16, lengthFacts{[]int{2}, nil, 1, 1}},
		// The semigroup without gaps.
		{[]int{1}, 1, lengthFacts{[]int{1}, nil, 1, 1}},
		{[]int{1}, 6, lengthFacts{[]int{6}, nil, 1, 1}},
		{[]int{1}, 100, lengthFacts{[]int{100}, nil, 1, 1}},
		{[]int{1}, 101, lengthFacts{}},
		// Several lengths, of which the quotient can be reduced or not.
		{[]int{3, 5}, 15, lengthFacts{[]int{3, 5}, []int{2}, 5, 3}},
		{[]int{3, 5}, 20, lengthFacts{[]int{4, 6}, []int{2}, 3, 2}},
		{[]int{3, 5}, 30, lengthFacts{[]int{6, 8, 10}, []int{2}, 5, 3}},
		{[]int{3, 5}, 18, lengthFacts{[]int{4, 6}, []int{2}, 3, 2}},
		{[]int{2, 3}, 6, lengthFacts{[]int{2, 3}, []int{1}, 3, 2}},
		{[]int{2, 3}, 12, lengthFacts{[]int{4, 5, 6}, []int{1}, 3, 2}},
		{[]int{2, 3}, 100, lengthFacts{numbersFrom(34, 50), []int{1}, 25, 17}},
		{[]int{4, 6, 9}, 36, lengthFacts{numbersFrom(4, 9), []int{1}, 9, 4}},
		// A length of several factorizations, and differences that occur several times.
		{[]int{4, 6, 9}, 30, lengthFacts{[]int{4, 5, 6, 7}, []int{1}, 7, 4}},
		{[]int{6, 9, 20}, 44, lengthFacts{[]int{4, 5}, []int{1}, 5, 4}},
		// Several differences.
		{[]int{6, 9, 20}, 60, lengthFacts{[]int{3, 7, 8, 9, 10}, []int{1, 4}, 10, 3}},
		{[]int{6, 9, 20}, 100, lengthFacts{[]int{5, 9, 10, 11, 12}, []int{1, 4}, 12, 5}},
		{[]int{4, 6, 59}, 100, lengthFacts{numbersFrom(17, 25), []int{1}, 25, 17}},
		// MaxFactored, one more, below zero and the integers at the ends.
		{[]int{3, 5}, 100, lengthFacts{[]int{20, 22, 24, 26, 28, 30, 32}, []int{2}, 8, 5}},
		{[]int{3, 5}, 101, lengthFacts{}},
		{[]int{3, 5}, 105, lengthFacts{}},
		{[]int{3, 5}, 1000, lengthFacts{}},
		{[]int{3, 5}, -1, lengthFacts{}},
		{[]int{3, 5}, -15, lengthFacts{}},
		{[]int{3, 5}, 1<<32 + 15, lengthFacts{}},
		{[]int{3, 5}, math.MinInt, lengthFacts{}},
		{[]int{3, 5}, math.MaxInt, lengthFacts{}},
		// No semigroup.
		{nil, 0, lengthFacts{}},
		{[]int{2}, 2, lengthFacts{}},
		{[]int{5, 3}, 15, lengthFacts{}},
		{[]int{3, 5, 8}, 15, lengthFacts{}},
		{[]int{2, 61}, 6, lengthFacts{}},
	}
	for _, c := range cases {
		if byText := lengthFactsByText(c.gens, c.n); !byText.equals(c.want) {
			t.Errorf("the test itself is wrong: %d, %d: %v", c.gens, c.n, byText)
		}
		if got := lengthFactsOf(c.gens, c.n); !got.equals(c.want) {
			t.Errorf("the lengths, their differences and the elasticity of %d in %d are %v; want %v", c.n, c.gens, got, c.want)
		}
	}
}

func TestLengthsOfSomeSemigroups(t *testing.T) {
	for _, gens := range factoredSemigroups() {
		for n := range 101 {
			compareLengths(t, gens, n)
		}
		for _, n := range factoredNumbers() {
			compareLengths(t, gens, n)
		}
	}
}

// TestLengthsOfSubsets takes all lists of different numbers up to 9, those of
// no semigroup included.
func TestLengthsOfSubsets(t *testing.T) {
	for set := range 1 << 9 {
		var list []int
		for g := 1; g <= 9; g++ {
			if set>>(g-1)&1 == 1 {
				list = append(list, g)
			}
		}
		for n := -1; n <= 45; n++ {
			compareLengths(t, list, n)
		}
	}
}

func TestDifferencesOfLengthsAreMultiples(t *testing.T) {
	for _, gens := range factoredSemigroups() {
		s := impl.Semigroup{Gens: gens}
		divisor := divisorOfDifferences(gens)
		for n := range 101 {
			lengths := impl.LengthsOf(s, n)
			for _, length := range lengths {
				if difference := length - lengths[0]; difference > 0 && (divisor == 0 || difference%divisor > 0) {
					t.Errorf("LengthsOf(%d, %d) = %d, whose differences are not multiples of %d", gens, n, lengths, divisor)
				}
			}
		}
		for _, d := range impl.DeltaSet(s, 100) {
			if d < 1 || divisor == 0 || d%divisor > 0 {
				t.Errorf("DeltaSet(%d, 100) = %d, which are not multiples of %d", gens, impl.DeltaSet(s, 100), divisor)
			}
		}
	}
}

func TestGreatestElasticity(t *testing.T) {
	cases := []struct {
		gens        []int
		most, least int
	}{
		{[]int{1}, 1, 1},
		{[]int{2, 3}, 3, 2},
		{[]int{2, 59}, 59, 2},
		{[]int{3, 5}, 5, 3},
		{[]int{3, 4, 5}, 5, 3},
		{[]int{4, 6, 9}, 9, 4},
		// Quotients that can be reduced.
		{[]int{4, 5, 6}, 3, 2},
		{[]int{6, 9, 20}, 10, 3},
		{[]int{6, 10, 15}, 5, 2},
		{[]int{5, 6, 7, 8, 9}, 9, 5},
		{[]int{4, 5, 6, 7}, 7, 4},
		{[]int{20, 27, 33, 45}, 9, 4},
		{[]int{12, 20, 57}, 19, 4},
		{greatestMultiplicity(), 5, 4},
		{[]int{7, 17, 60}, 60, 7},
		{[]int{30, 31, 33, 37, 45, 52, 56, 58, 59}, 59, 30},
		{[]int{5, 51}, 51, 5},
	}
	for _, c := range cases {
		if most, least := impl.GreatestElasticity(impl.Semigroup{Gens: c.gens}); most != c.most || least != c.least {
			t.Errorf("GreatestElasticity(%d) = %d, %d; want %d, %d", c.gens, most, least, c.most, c.least)
		}
	}
}

// TestElasticityIsAtMostTheGreatest also looks at the product of the least and
// the greatest generator, where it is the greatest.
func TestElasticityIsAtMostTheGreatest(t *testing.T) {
	reached := 0
	for _, gens := range factoredSemigroups() {
		s := impl.Semigroup{Gens: gens}
		last := gens[len(gens)-1]
		wantMost, wantLeast := reducedByText(last, gens[0])
		most, least := impl.GreatestElasticity(s)
		if most != wantMost || least != wantLeast {
			t.Errorf("GreatestElasticity(%d) = %d, %d; want %d, %d", gens, most, least, wantMost, wantLeast)
		}
		for n := range 101 {
			a, b := impl.ElasticityOf(s, n)
			if a < b || a*least > b*most || b == 0 && n > 0 && impl.Contains(s, n) {
				t.Errorf("ElasticityOf(%d, %d) = %d, %d, but GreatestElasticity is %d, %d", gens, n, a, b, most, least)
			}
		}
		if product := gens[0] * last; product <= 100 {
			reached++
			if a, b := impl.ElasticityOf(s, product); a != most || b != least {
				t.Errorf("ElasticityOf(%d, %d) = %d, %d; want %d, %d", gens, product, a, b, most, least)
			}
		}
	}
	if reached < 10 {
		t.Errorf("the test itself is wrong: only %d products", reached)
	}
}

func TestDeltaSet(t *testing.T) {
	cases := []struct {
		gens []int
		most int
		want []int
	}{
		// One generator and two.
		{[]int{1}, 0, nil},
		{[]int{1}, 100, nil},
		{[]int{3, 5}, 0, nil},
		{[]int{3, 5}, 14, nil},
		{[]int{3, 5}, 15, []int{2}},
		{[]int{3, 5}, 16, []int{2}},
		{[]int{3, 5}, 40, []int{2}},
		{[]int{3, 5}, 100, []int{2}},
		{[]int{2, 3}, 5, nil},
		{[]int{2, 3}, 6, []int{1}},
		{[]int{5, 51}, 100, nil},
		{[]int{3, 59}, 100, nil},
		{[]int{4, 25}, 99, nil},
		{[]int{4, 25}, 100, []int{21}},
		{[]int{3, 31}, 92, nil},
		{[]int{3, 31}, 93, []int{28}},
		// Several, of which the greater may be found first.
		{[]int{4, 6, 9}, 11, nil},
		{[]int{4, 6, 9}, 12, []int{1}},
		{[]int{4, 6, 9}, 40, []int{1}},
		{[]int{4, 6, 59}, 100, []int{1}},
		{[]int{6, 9, 20}, 17, nil},
		{[]int{6, 9, 20}, 18, []int{1}},
		{[]int{6, 9, 20}, 59, []int{1}},
		{[]int{6, 9, 20}, 60, []int{1, 4}},
		{[]int{6, 9, 20}, 100, []int{1, 2, 3, 4}},
		{[]int{5, 7, 9, 11}, 100, []int{2}},
		{numbersFrom(12, 23), 100, []int{1}},
		// Beyond the limits.
		{[]int{3, 5}, -1, nil},
		{[]int{3, 5}, 101, nil},
		{[]int{3, 5}, 1000, nil},
		{[]int{3, 5}, 1<<32 + 20, nil},
		{[]int{3, 5}, math.MinInt, nil},
		{[]int{3, 5}, math.MaxInt, nil},
		// No semigroup.
		{nil, 40, nil},
		{[]int{2}, 40, nil},
		{[]int{5, 3}, 40, nil},
		{[]int{3, 5, 8}, 40, nil},
	}
	for _, c := range cases {
		if byText := deltaSetByText(c.gens, c.most); !slices.Equal(byText, c.want) {
			t.Errorf("the test itself is wrong: %d, %d: %d", c.gens, c.most, byText)
		}
		if got := impl.DeltaSet(impl.Semigroup{Gens: c.gens}, c.most); !slices.Equal(got, c.want) {
			t.Errorf("DeltaSet(%d, %d) = %d; want %d", c.gens, c.most, got, c.want)
		}
	}
}

func TestDeltaSetOfSomeSemigroups(t *testing.T) {
	for _, gens := range someSemigroups() {
		s := impl.Semigroup{Gens: gens}
		set := map[int]bool{}
		for most := range 101 {
			for _, d := range lengthFactsByText(gens, most).deltas {
				set[d] = true
			}
			if got, want := impl.DeltaSet(s, most), inOrder(set); !slices.Equal(got, want) {
				t.Fatalf("DeltaSet(%d, %d) = %d; want %d", gens, most, got, want)
			}
		}
		for _, most := range factoredNumbers() {
			if got := impl.DeltaSet(s, most); (most < 0 || most > 100) && len(got) > 0 {
				t.Errorf("DeltaSet(%d, %d) = %d", gens, most, got)
			}
		}
	}
}

func TestLengthsOfNoSemigroup(t *testing.T) {
	for _, gens := range append(invalidGens(), []int{48, 60}, []int{1, 1}) {
		s := impl.Semigroup{Gens: gens}
		for _, n := range factoredNumbers() {
			if got := lengthFactsOf(gens, n); !got.equals(lengthFacts{}) {
				t.Errorf("the lengths, their differences and the elasticity of %d in %d, which is no semigroup, are %v", n, gens, got)
			}
			if got := impl.DeltaSet(s, n); len(got) > 0 {
				t.Errorf("DeltaSet(%d, %d), of no semigroup, = %d", gens, n, got)
			}
		}
		if most, least := impl.GreatestElasticity(s); most != 0 || least != 0 {
			t.Errorf("GreatestElasticity(%d), of no semigroup, = %d, %d", gens, most, least)
		}
	}
	if most, least := impl.GreatestElasticity(impl.Semigroup{}); most != 0 || least != 0 {
		t.Errorf("GreatestElasticity of the zero Semigroup = %d, %d", most, least)
	}
}

func lengthCalls() map[string]func(s impl.Semigroup) []int {
	return map[string]func(s impl.Semigroup) []int{
		"LengthsOf":          func(s impl.Semigroup) []int { return impl.LengthsOf(s, 60) },
		"LengthsOf 0":        func(s impl.Semigroup) []int { return impl.LengthsOf(s, 0) },
		"LengthsOf 101":      func(s impl.Semigroup) []int { return impl.LengthsOf(s, 101) },
		"DeltaOf":            func(s impl.Semigroup) []int { return impl.DeltaOf(s, 60) },
		"DeltaSet":           func(s impl.Semigroup) []int { return impl.DeltaSet(s, 60) },
		"ElasticityOf":       func(s impl.Semigroup) []int { impl.ElasticityOf(s, 60); return nil },
		"GreatestElasticity": func(s impl.Semigroup) []int { impl.GreatestElasticity(s); return nil },
	}
}

func TestLengthCallsLeaveGens(t *testing.T) {
	for name, call := range lengthCalls() {
		for _, gens := range append(factoredSemigroups(), invalidGens()...) {
			g := guard(gens)
			call(impl.Semigroup{Gens: g.list})
			g.check(t, name, gens)
		}
	}
}

func TestLengthsAreNewMemory(t *testing.T) {
	for name, call := range lengthCalls() {
		for _, gens := range factoredSemigroups() {
			checkNewMemory(t, name, gens, call)
		}
	}
}
