package tests

import (
	"math"
	"slices"
	"testing"

	"loop.example/g00595/impl"
)

// Promise 9: a semigroup is symmetric exactly if its type is 1.

// symmetryFacts is what chapter 9 says of a semigroup.
type symmetryFacts struct {
	pseudo, special                   []int
	kinds                             int
	symmetric, pseudoSym, irreducible bool
}

// mirrorsByText reports whether of each x from 0 to f but left exactly one of x
// and f - x is an element. Where both are the same number, never exactly one is.
func mirrorsByText(isElement []bool, f int, left int) bool {
	for x := 0; x <= f; x++ {
		if x != left && isElement[x] == isElement[f-x] {
			return false
		}
	}
	return true
}

// symmetryFactsByText follows the text of the document. As no gap is beyond
// 199, it suffices to add elements up to 200.
func symmetryFactsByText(gens []int) symmetryFacts {
	var facts symmetryFacts
	if !isSemigroupByText(gens) {
		return facts
	}
	isElement := searchedSums(gens, 500)
	f := -1
	for x := range 200 {
		if isElement[x] {
			continue
		}
		f = x
		all := true
		for y := 1; y <= 200; y++ {
			all = all && (!isElement[y] || isElement[x+y])
		}
		if all {
			facts.pseudo = append(facts.pseudo, x)
		}
		if all && isElement[x+x] {
			facts.special = append(facts.special, x)
		}
	}
	facts.kinds = len(facts.pseudo)
	if f < 0 {
		facts.kinds = 1
	}
	facts.symmetric = mirrorsByText(isElement, f, -1)
	facts.pseudoSym = f > 0 && f%2 == 0 && mirrorsByText(isElement, f, f/2)
	facts.irreducible = facts.symmetric || facts.pseudoSym
	return facts
}

func symmetryFactsOf(gens []int) symmetryFacts {
	s := impl.Semigroup{Gens: gens}
	return symmetryFacts{impl.PseudoFrobenius(s), impl.SpecialGaps(s), impl.TypeOf(s), impl.IsSymmetric(s), impl.IsPseudoSymmetric(s), impl.IsIrreducible(s)}
}

func (f symmetryFacts) equals(g symmetryFacts) bool {
	return slices.Equal(f.pseudo, g.pseudo) && slices.Equal(f.special, g.special) && f.kinds == g.kinds &&
		f.symmetric == g.symmetric && f.pseudoSym == g.pseudoSym && f.irreducible == g.irreducible
}

// compareSymmetry looks at all functions of chapter 9 for one list.
func compareSymmetry(t *testing.T, gens []int) symmetryFacts {
	t.Helper()
	got, want := symmetryFactsOf(gens), symmetryFactsByText(gens)
	if !got.equals(want) {
		t.Fatalf("the symmetry of %d is %v; want %v", gens, got, want)
	}
	if isSemigroupByText(gens) && got.symmetric != (got.kinds == 1) {
		t.Fatalf("%d has the type %d, but IsSymmetric is %v", gens, got.kinds, got.symmetric)
	}
	return got
}

// someSemigroups are those of semigroupsWithLimits and more with a greatest gap
// that is even, or just below MaxConductor.
func someSemigroups() [][]int {
	return append(semigroupsWithLimits(), greatestMultiplicity(),
		[]int{4, 5, 7}, []int{4, 5, 11}, []int{3, 7, 8}, []int{4, 7, 9}, []int{5, 6, 7, 8}, []int{5, 6, 7, 9}, []int{5, 6, 13}, []int{3, 10, 11},
		[]int{13, 31, 56}, []int{25, 26, 31}, []int{12, 35, 37}, []int{13, 37, 45}, []int{8, 33, 58}, []int{9, 35, 52}, []int{8, 51, 53}, []int{9, 50, 56})
}

const (
	isReducible = iota
	isSymmetric
	isPseudo
)

func TestSymmetryOfSemigroups(t *testing.T) {
	cases := []struct {
		gens, pseudo, special []int
		count, kind           int
	}{
		// The semigroup without gaps.
		{[]int{1}, nil, nil, 1, isSymmetric},
		// The multiplicity 2.
		{[]int{2, 3}, []int{1}, []int{1}, 1, isSymmetric},
		{[]int{2, 5}, []int{3}, []int{3}, 1, isSymmetric},
		{[]int{2, 59}, []int{57}, []int{57}, 1, isSymmetric},
		// An odd greatest gap.
		{[]int{3, 4}, []int{5}, []int{5}, 1, isSymmetric},
		{[]int{3, 5}, []int{7}, []int{7}, 1, isSymmetric},
		{[]int{4, 6, 9}, []int{11}, []int{11}, 1, isSymmetric},
		{[]int{6, 9, 20}, []int{43}, []int{43}, 1, isSymmetric},
		{[]int{5, 6, 7, 8}, []int{9}, []int{9}, 1, isSymmetric},
		{[]int{3, 7, 8}, []int{4, 5}, []int{4, 5}, 2, isReducible},
		{[]int{4, 5, 11}, []int{6, 7}, []int{6, 7}, 2, isReducible},
		{[]int{10, 11, 12, 13}, []int{27, 28, 29}, []int{27, 28, 29}, 3, isReducible},
		// An even one, of which the middle is left out or something else is missing too.
		{[]int{3, 4, 5}, []int{1, 2}, []int{2}, 2, isPseudo},
		{[]int{3, 5, 7}, []int{2, 4}, []int{4}, 2, isPseudo},
		{[]int{4, 5, 7}, []int{3, 6}, []int{6}, 2, isPseudo},
		{[]int{5, 6, 7, 9}, []int{4, 8}, []int{8}, 2, isPseudo},
		{[]int{4, 7, 9}, []int{5, 10}, []int{10}, 2, isPseudo},
		{[]int{5, 6, 13}, []int{7, 14}, []int{14}, 2, isPseudo},
		{[]int{3, 10, 11}, []int{7, 8}, []int{7, 8}, 2, isReducible},
		{[]int{7, 17, 60}, []int{53, 78}, []int{53, 78}, 2, isReducible},
		// Doubles that are the greatest gap or a lesser one, and those that are the conductor or a greater element.
		{[]int{4, 5, 6, 7}, []int{1, 2, 3}, []int{2, 3}, 3, isReducible},
		{[]int{5, 6, 7, 8, 9}, []int{1, 2, 3, 4}, []int{3, 4}, 4, isReducible},
		{numbersFrom(11, 21), numbersFrom(1, 10), numbersFrom(6, 10), 10, isReducible},
		{numbersFrom(12, 23), numbersFrom(1, 11), numbersFrom(6, 11), 11, isReducible},
		// A double that is an element below the conductor.
		{greatestMultiplicity(), append([]int{54}, numbersFrom(181, 191)...), append([]int{54}, numbersFrom(181, 191)...), 12, isReducible},
		// Conductors of 198, 199 and 200.
		{[]int{7, 34}, []int{197}, []int{197}, 1, isSymmetric},
		{[]int{9, 50, 56}, []int{103, 197}, []int{103, 197}, 2, isReducible},
		{[]int{13, 31, 56}, []int{99, 198}, []int{198}, 2, isPseudo},
		{[]int{25, 26, 31}, []int{99, 198}, []int{198}, 2, isPseudo},
		{[]int{17, 23, 54}, []int{167, 198}, []int{167, 198}, 2, isReducible},
		{[]int{12, 35, 37}, []int{173, 198}, []int{173, 198}, 2, isReducible},
		{[]int{5, 51}, []int{199}, []int{199}, 1, isSymmetric},
		{[]int{9, 26}, []int{199}, []int{199}, 1, isSymmetric},
		{[]int{12, 20, 57}, []int{199}, []int{199}, 1, isSymmetric},
		{[]int{8, 33, 58}, []int{199}, []int{199}, 1, isSymmetric},
		{[]int{9, 35, 52}, []int{182, 199}, []int{182, 199}, 2, isReducible},
	}
	for _, c := range cases {
		want := symmetryFacts{c.pseudo, c.special, c.count, c.kind == isSymmetric, c.kind == isPseudo, c.kind != isReducible}
		if byText := symmetryFactsByText(c.gens); !byText.equals(want) {
			t.Errorf("the test itself is wrong: the symmetry of %d is %v", c.gens, byText)
		}
		if got := symmetryFactsOf(c.gens); !got.equals(want) {
			t.Errorf("the symmetry of %d is %v; want %v", c.gens, got, want)
		}
	}
}

func TestSymmetryOfSomeSemigroups(t *testing.T) {
	for _, gens := range someSemigroups() {
		compareSymmetry(t, gens)
	}
}

// TestSymmetryOfSubsets takes all lists of different numbers up to 12, those of
// no semigroup included.
func TestSymmetryOfSubsets(t *testing.T) {
	symmetric, pseudo, reducible := 0, 0, 0
	for set := range 1 << 12 {
		var list []int
		for g := 1; g <= 12; g++ {
			if set>>(g-1)&1 == 1 {
				list = append(list, g)
			}
		}
		facts := compareSymmetry(t, list)
		switch {
		case facts.symmetric:
			symmetric++
		case facts.pseudoSym:
			pseudo++
		case isSemigroupByText(list):
			reducible++
		}
	}
	if symmetric < 10 || pseudo < 10 || reducible < 10 {
		t.Errorf("the test itself is wrong: only %d, %d and %d semigroups", symmetric, pseudo, reducible)
	}
}

// TestSymmetryOfPairs: two generators always give a symmetric semigroup.
func TestSymmetryOfPairs(t *testing.T) {
	for a := 2; a <= 20; a++ {
		for b := a + 1; b <= 60; b++ {
			facts := compareSymmetry(t, []int{a, b})
			if isSemigroupByText([]int{a, b}) && (!facts.symmetric || !slices.Equal(facts.pseudo, []int{a*b - a - b})) {
				t.Fatalf("the symmetry of %d and %d is %v", a, b, facts)
			}
		}
	}
}

// TestSymmetryOfTriples also holds the functions against what the genus and the
// number of SpecialGaps tell.
func TestSymmetryOfTriples(t *testing.T) {
	kinds := map[[2]bool]int{}
	for a := 3; a <= 15; a += 2 {
		for b := a + 1; b <= 60; b += 3 {
			for c := b + 1; c <= 60; c += 2 {
				gens := []int{a, b, c}
				if !isSemigroupByText(gens) {
					continue
				}
				facts := compareSymmetry(t, gens)
				kinds[[2]bool{facts.symmetric, facts.pseudoSym}]++
				gaps := gapFactsByText(gens)
				if facts.symmetric != (2*gaps.genus == gaps.frobenius+1) || facts.pseudoSym != (2*gaps.genus == gaps.frobenius+2) {
					t.Fatalf("%d has the genus %d and the greatest gap %d, but its symmetry is %v", gens, gaps.genus, gaps.frobenius, facts)
				}
				if facts.irreducible != (len(facts.special) == 1) {
					t.Fatalf("%d has the special gaps %d, but its symmetry is %v", gens, facts.special, facts)
				}
			}
		}
	}
	if kinds[[2]bool{true, false}] < 50 || kinds[[2]bool{false, true}] < 20 || kinds[[2]bool{false, false}] < 50 {
		t.Errorf("the test itself is wrong: %v", kinds)
	}
}

// TestSpecialGapsCanBeAdded asks of each gap whether the elements and itself
// are a semigroup, which only those of SpecialGaps may be.
func TestSpecialGapsCanBeAdded(t *testing.T) {
	for _, gens := range someSemigroups() {
		s := impl.Semigroup{Gens: gens}
		special := impl.SpecialGaps(s)
		gaps := gapFactsByText(gens).gaps
		for i, x := range gaps {
			_, clashes := gapClashByText(slices.Delete(slices.Clone(gaps), i, i+1))
			if slices.Contains(special, x) == clashes {
				t.Errorf("SpecialGaps(%d) = %d, but a clash with %d is %v", gens, special, x, clashes)
			}
		}
	}
}

func TestSymmetryOfNoSemigroup(t *testing.T) {
	lists := append(invalidGens(), []int{48, 60}, []int{1, 1}, []int{2, 3, math.MinInt}, []int{math.MaxInt, 1})
	for _, gens := range lists {
		if got := symmetryFactsOf(gens); !got.equals(symmetryFacts{}) {
			t.Errorf("the symmetry of %d, which is no semigroup, is %v", gens, got)
		}
	}
	if s := (impl.Semigroup{}); impl.TypeOf(s) != 0 || impl.IsSymmetric(s) || impl.IsPseudoSymmetric(s) || impl.IsIrreducible(s) || len(impl.PseudoFrobenius(s)) > 0 || len(impl.SpecialGaps(s)) > 0 {
		t.Error("the zero Semigroup has a symmetry")
	}
}

func symmetryCalls() map[string]func(s impl.Semigroup) []int {
	return map[string]func(s impl.Semigroup) []int{
		"PseudoFrobenius":   impl.PseudoFrobenius,
		"SpecialGaps":       impl.SpecialGaps,
		"TypeOf":            func(s impl.Semigroup) []int { impl.TypeOf(s); return nil },
		"IsSymmetric":       func(s impl.Semigroup) []int { impl.IsSymmetric(s); return nil },
		"IsPseudoSymmetric": func(s impl.Semigroup) []int { impl.IsPseudoSymmetric(s); return nil },
		"IsIrreducible":     func(s impl.Semigroup) []int { impl.IsIrreducible(s); return nil },
	}
}

func TestSymmetryCallsLeaveGens(t *testing.T) {
	for name, call := range symmetryCalls() {
		for _, gens := range append(someSemigroups(), invalidGens()...) {
			g := guard(gens)
			call(impl.Semigroup{Gens: g.list})
			g.check(t, name, gens)
		}
	}
}

// checkNewMemory changes one result of a call, and then its argument, and looks
// at the others.
func checkNewMemory(t *testing.T, name string, gens []int, call func(s impl.Semigroup) []int) {
	t.Helper()
	g := guard(gens)
	s := impl.Semigroup{Gens: g.list}
	first := call(s)
	want := slices.Clone(first)
	second := call(s)
	scribble(first)
	g.check(t, name+", or a change of its result,", gens)
	third := call(s)
	scribble(g.whole)
	if !slices.Equal(second, want) || !slices.Equal(third, want) {
		t.Errorf("%s of %d gives %d and %d after others were changed; want %d", name, gens, second, third, want)
	}
}

func TestSymmetryResultsAreNewMemory(t *testing.T) {
	for name, call := range symmetryCalls() {
		for _, gens := range someSemigroups() {
			checkNewMemory(t, name, gens, call)
		}
	}
}
