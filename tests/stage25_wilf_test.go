package tests

import (
	"slices"
	"testing"

	"loop.example/g00595/impl"
)

// Promise 25: there are at least as many generators times small elements as
// numbers below the conductor.

// wilfFacts is what chapter 25 says of a semigroup; the density is two numbers.
type wilfFacts struct{ left, wilf, depth, above, below, primitive int }

func noWilfFacts() wilfFacts { return wilfFacts{-1, -1, -1, 0, 0, -1} }

// wilfFactsByText follows the text of the document: the depth is the least
// number whose product with the multiplicity is not less than the conductor.
func wilfFactsByText(gens []int) wilfFacts {
	if !isSemigroupByText(gens) {
		return noWilfFacts()
	}
	gapped := gapFactsByText(gens)
	facts := wilfFacts{left: len(gapped.small), wilf: -gapped.conductor, above: 0, below: 1}
	for facts.depth*gens[0] < gapped.conductor {
		facts.depth++
	}
	for _, g := range gens {
		facts.wilf += facts.left
		if g < gapped.conductor {
			facts.primitive++
		}
	}
	if gapped.conductor > 0 {
		facts.above, facts.below = reducedByText(facts.left, gapped.conductor)
	}
	return facts
}

func wilfFactsOf(gens []int) wilfFacts {
	s := impl.Semigroup{Gens: gens}
	above, below := impl.SporadicDensity(s)
	return wilfFacts{impl.LeftCount(s), impl.WilfNumber(s), impl.DepthOf(s), above, below, impl.PrimitiveBelow(s)}
}

func compareWilf(t *testing.T, gens []int) wilfFacts {
	t.Helper()
	got, want := wilfFactsOf(gens), wilfFactsByText(gens)
	if got != want {
		t.Fatalf("the counts of the small elements of %d are %v; want %v", gens, got, want)
	}
	return got
}

func TestSmallCountsOfSemigroups(t *testing.T) {
	cases := []struct {
		gens []int
		want wilfFacts
	}{
		// The semigroup without gaps.
		{[]int{1}, wilfFacts{0, 0, 0, 0, 1, 0}},
		// Conductors that are multiples of the multiplicity.
		{[]int{2, 3}, wilfFacts{1, 0, 1, 1, 2, 0}},
		{[]int{2, 5}, wilfFacts{2, 0, 2, 1, 2, 1}},
		{[]int{2, 59}, wilfFacts{29, 0, 29, 1, 2, 1}},
		{[]int{3, 4}, wilfFacts{3, 0, 2, 1, 2, 2}},
		{[]int{3, 4, 5}, wilfFacts{1, 0, 1, 1, 3, 0}},
		{[]int{3, 7, 8}, wilfFacts{2, 0, 2, 1, 3, 1}},
		{[]int{4, 6, 9}, wilfFacts{6, 6, 3, 1, 2, 3}},
		{[]int{5, 51}, wilfFacts{100, 0, 40, 1, 2, 2}},
		{allFrom(12), wilfFacts{1, 0, 1, 1, 12, 0}},
		// Such that are not.
		{[]int{3, 5}, wilfFacts{4, 0, 3, 1, 2, 2}},
		{[]int{4, 5, 7}, wilfFacts{3, 2, 2, 3, 7, 2}},
		{[]int{6, 9, 20}, wilfFacts{22, 22, 8, 1, 2, 3}},
		{[]int{5, 7, 9, 11}, wilfFacts{7, 14, 3, 1, 2, 4}},
		{[]int{9, 26}, wilfFacts{100, 0, 23, 1, 2, 2}},
		// Densities that cannot be reduced.
		{[]int{3, 5, 7}, wilfFacts{2, 1, 2, 2, 5, 1}},
		{[]int{5, 6, 7, 9}, wilfFacts{4, 7, 2, 4, 9, 3}},
		{[]int{17, 23, 54}, wilfFacts{95, 86, 12, 95, 199, 3}},
		// Such that can be reduced, also to another one than 1 and 2.
		{[]int{3, 10, 11}, wilfFacts{3, 0, 3, 1, 3, 1}},
		{[]int{10, 11, 12, 13}, wilfFacts{12, 18, 3, 2, 5, 4}},
		// Gens at the conductor, and beyond it.
		{[]int{5, 6, 7, 8, 9}, wilfFacts{1, 0, 1, 1, 5, 0}},
		{[]int{4, 6, 7, 9}, wilfFacts{2, 2, 2, 1, 3, 1}},
		{[]int{4, 7, 9, 10}, wilfFacts{2, 1, 2, 2, 7, 1}},
		{[]int{3, 8, 10}, wilfFacts{3, 1, 3, 3, 8, 1}},
	}
	for _, c := range cases {
		if byText := wilfFactsByText(c.gens); byText != c.want {
			t.Errorf("the test itself is wrong: %d: %v", c.gens, byText)
		}
		if got := wilfFactsOf(c.gens); got != c.want {
			t.Errorf("the counts of the small elements of %d are %v; want %v", c.gens, got, c.want)
		}
	}
}

func TestSmallCountsOfSomeSemigroups(t *testing.T) {
	count := map[string]int{}
	for _, gens := range slices.Concat(factoredSemigroups(), smallSemigroups(9), wideSemigroups(), invalidGens()) {
		f := compareWilf(t, gens)
		if f == noWilfFacts() {
			count["none"]++
			continue
		}
		conductor := gapFactsByText(gens).conductor
		if conductor%gens[0] == 0 {
			count["a multiple"]++
		} else {
			count["no multiple"]++
		}
		if f.below == conductor {
			count["not reduced"]++
		} else {
			count["reduced"]++
		}
		if slices.Contains(gens, conductor) {
			count["at the conductor"]++
		}
		if f.primitive > 0 && gens[len(gens)-1] > conductor {
			count["below and beyond"]++
		}
	}
	for what, n := range map[string]int{"none": 20, "a multiple": 50, "no multiple": 100, "not reduced": 100, "reduced": 100, "at the conductor": 50, "below and beyond": 50} {
		if count[what] < n {
			t.Errorf("the test itself is wrong: %v", count)
		}
	}
}

func TestSmallCountsOfTriples(t *testing.T) {
	for a := 2; a <= 14; a++ {
		for b := a + 1; b <= 44; b += 5 {
			for c := b + 1; c <= 60; c += 9 {
				compareWilf(t, []int{a, b, c})
			}
		}
	}
}

// TestGeneratorsTimesSmallElements states the promise in terms of the other
// chapters.
func TestGeneratorsTimesSmallElements(t *testing.T) {
	for _, gens := range slices.Concat(factoredSemigroups(), smallSemigroups(9), wideSemigroups()) {
		s := impl.Semigroup{Gens: gens}
		product := impl.DimensionOf(s) * impl.LeftCount(s)
		if product < impl.ConductorOf(s) || impl.WilfNumber(s) != product-impl.ConductorOf(s) {
			t.Fatalf("of %d, WilfNumber is %d, but the product is %d and the conductor %d", gens, impl.WilfNumber(s), product, impl.ConductorOf(s))
		}
		if impl.LeftCount(s) != len(impl.SmallElements(s)) || impl.LeftCount(s)+impl.GenusOf(s) != impl.ConductorOf(s) {
			t.Fatalf("LeftCount(%d) = %d", gens, impl.LeftCount(s))
		}
		if above, below := impl.SporadicDensity(s); above*impl.ConductorOf(s) != below*impl.LeftCount(s) || impl.GcdOf(above, below) != 1 {
			t.Fatalf("SporadicDensity(%d) = %d, %d", gens, above, below)
		}
		if depth := impl.DepthOf(s); depth*gens[0] < impl.ConductorOf(s) || (depth-1)*gens[0] >= impl.ConductorOf(s) && depth > 0 {
			t.Fatalf("DepthOf(%d) = %d", gens, depth)
		}
	}
}

func TestSmallCountsOfNoSemigroup(t *testing.T) {
	for _, gens := range append(invalidGens(), []int{48, 60}, []int{1, 1}) {
		if got := wilfFactsOf(gens); got != noWilfFacts() {
			t.Errorf("the counts of the small elements of %d, which is no semigroup, are %v", gens, got)
		}
	}
	var zero impl.Semigroup
	above, below := impl.SporadicDensity(zero)
	if got := (wilfFacts{impl.LeftCount(zero), impl.WilfNumber(zero), impl.DepthOf(zero), above, below, impl.PrimitiveBelow(zero)}); got != noWilfFacts() {
		t.Errorf("the counts of the zero Semigroup are %v", got)
	}
}

func TestSmallCountCallsLeaveGens(t *testing.T) {
	calls := map[string]func(s impl.Semigroup) int{
		"LeftCount":       impl.LeftCount,
		"WilfNumber":      impl.WilfNumber,
		"DepthOf":         impl.DepthOf,
		"SporadicDensity": func(s impl.Semigroup) int { above, _ := impl.SporadicDensity(s); return above },
		"PrimitiveBelow":  impl.PrimitiveBelow,
	}
	checkCallsLeaveGens(t, calls, slices.Concat(factoredSemigroups(), smallSemigroups(6), invalidGens()))
}
