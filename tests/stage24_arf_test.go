package tests

import (
	"slices"
	"testing"

	"loop.example/g00595/impl"
)

// Promise 24: the Arf closure is the least Arf semigroup around.

// failure is a result of ArfFailure.
type failure struct {
	x, y, z int
	found   bool
}

// arfFailureByText looks at all small elements in each place, and keeps the
// triple that comes first.
func arfFailureByText(gens []int) failure {
	if !isSemigroupByText(gens) {
		return failure{}
	}
	isElement := searchedSums(gens, 500)
	small := gapFactsByText(gens).small
	for _, x := range small {
		for _, y := range small {
			for _, z := range small {
				if x >= y && y >= z && !isElement[x+y-z] {
					return failure{x, y, z, true}
				}
			}
		}
	}
	return failure{}
}

// isArfByText also takes elements from the conductor on.
func isArfByText(gens []int) bool {
	if !isSemigroupByText(gens) {
		return false
	}
	isElement := searchedSums(gens, 600)
	elements := elementsByText(gens, gapFactsByText(gens).conductor+2)
	for _, x := range elements {
		for _, y := range elements {
			for _, z := range elements {
				if x >= y && y >= z && !isElement[x+y-z] {
					return false
				}
			}
		}
	}
	return true
}

// arfNumbers adds x + y - z for all x, y and z until nothing changes. As 0 may
// be z, this also adds the sums.
func arfNumbers(gens []int) []bool {
	in := searchedSums(gens, 400)
	for changed := true; changed; {
		changed = false
		for x := 0; x < 200; x++ {
			for y := 0; in[x] && y <= x; y++ {
				for z := 0; in[y] && z <= y; z++ {
					if in[z] && !in[x+y-z] {
						in[x+y-z] = true
						changed = true
					}
				}
			}
		}
	}
	return in
}

func closureByText(gens []int) ([]int, bool) {
	if !isSemigroupByText(gens) {
		return nil, false
	}
	in := arfNumbers(gens)
	return fromGapsByText(gapsByText(func(n int) bool { return in[n] }))
}

func blowUpByText(gens []int) ([]int, bool) {
	if !isSemigroupByText(gens) {
		return nil, false
	}
	list := []int{gens[0]}
	for _, g := range gens[1:] {
		list = append(list, g-gens[0])
	}
	return fromGensByText(list)
}

func sequenceByText(gens []int) ([]int, bool) {
	if !isSemigroupByText(gens) {
		return nil, false
	}
	var sequence []int
	for {
		sequence = append(sequence, gens[0])
		if gens[0] == 1 {
			return sequence, true
		}
		next, ok := blowUpByText(gens)
		if !ok {
			return nil, false
		}
		gens = next
	}
}

// arfFacts is what chapter 24 says of a semigroup.
type arfFacts struct {
	failure                           failure
	closure, blown, sequence          []int
	isArf, closes, blows, hasSequence bool
}

func arfFactsByText(gens []int) arfFacts {
	f := arfFacts{failure: arfFailureByText(gens), isArf: isArfByText(gens)}
	f.closure, f.closes = closureByText(gens)
	f.blown, f.blows = blowUpByText(gens)
	f.sequence, f.hasSequence = sequenceByText(gens)
	return f
}

func arfFactsOf(gens []int) arfFacts {
	s := impl.Semigroup{Gens: gens}
	x, y, z, found := impl.ArfFailure(s)
	closure, closes := impl.ArfClosure(s)
	blown, blows := impl.BlowUp(s)
	sequence, hasSequence := impl.MultiplicitySequence(s)
	return arfFacts{failure{x, y, z, found}, closure.Gens, blown.Gens, sequence, impl.IsArf(s), closes, blows, hasSequence}
}

func (f arfFacts) equals(g arfFacts) bool {
	return f.failure == g.failure && slices.Equal(f.closure, g.closure) && slices.Equal(f.blown, g.blown) && slices.Equal(f.sequence, g.sequence) &&
		f.isArf == g.isArf && f.closes == g.closes && f.blows == g.blows && f.hasSequence == g.hasSequence
}

func compareArf(t *testing.T, gens []int) arfFacts {
	t.Helper()
	got, want := arfFactsOf(gens), arfFactsByText(gens)
	if !got.equals(want) {
		t.Fatalf("of %d, the failure, the closure, the blow-up and the sequence are %v; want %v", gens, got, want)
	}
	return got
}

// arfOf is what is said of an Arf semigroup, which is its own closure.
func arfOf(gens []int, blown []int, sequence ...int) arfFacts {
	return arfFacts{failure{}, gens, blown, sequence, true, true, true, true}
}

// otherOf is what is said of a semigroup with a failure; it may have no closure.
func otherOf(x int, y int, z int, closure []int, blown []int, sequence ...int) arfFacts {
	return arfFacts{failure{x, y, z, true}, closure, blown, sequence, false, len(closure) > 0, true, true}
}

func TestArfOfSemigroups(t *testing.T) {
	cases := []struct {
		gens []int
		want arfFacts
	}{
		// The semigroup without gaps.
		{[]int{1}, arfOf([]int{1}, []int{1}, 1)},
		// Arf semigroups.
		{[]int{2, 3}, arfOf([]int{2, 3}, []int{1}, 2, 1)},
		{[]int{2, 5}, arfOf([]int{2, 5}, []int{2, 3}, 2, 2, 1)},
		{[]int{3, 4, 5}, arfOf([]int{3, 4, 5}, []int{1}, 3, 1)},
		{[]int{3, 5, 7}, arfOf([]int{3, 5, 7}, []int{2, 3}, 3, 2, 1)},
		{[]int{3, 7, 8}, arfOf([]int{3, 7, 8}, []int{3, 4, 5}, 3, 3, 1)},
		{[]int{4, 6, 7, 9}, arfOf([]int{4, 6, 7, 9}, []int{2, 3}, 4, 2, 1)},
		{allFrom(12), arfOf(allFrom(12), []int{1}, 12, 1)},
		// Others.
		{[]int{3, 4}, otherOf(4, 4, 3, []int{3, 4, 5}, []int{1}, 3, 1)},
		{[]int{3, 5}, otherOf(5, 5, 3, []int{3, 5, 7}, []int{2, 3}, 3, 2, 1)},
		{[]int{4, 6, 9}, otherOf(9, 6, 4, []int{4, 6, 9, 11}, []int{2, 5}, 4, 2, 2, 1)},
		{[]int{4, 5, 7}, otherOf(5, 5, 4, []int{4, 5, 6, 7}, []int{1}, 4, 1)},
		{[]int{6, 9, 20}, otherOf(20, 9, 6, []int{6, 9, 20, 22, 23, 25}, []int{3, 14}, 6, 3, 3, 3, 3, 2, 1)},
		{[]int{5, 51}, otherOf(51, 51, 5, []int{5, 51, 52, 53, 54}, []int{5, 46}, 5, 5, 5, 5, 5, 5, 5, 5, 5, 5, 1)},
		{[]int{10, 11, 12, 13}, otherOf(12, 12, 10, allFrom(10), []int{1}, 10, 1)},
		// Too great Gens on the way, but not in the closure.
		{[]int{3, 32}, otherOf(32, 32, 3, []int{3, 32, 34}, []int{3, 29}, 3, 3, 3, 3, 3, 3, 3, 3, 3, 3, 2, 1)},
		// A closure with a generator of 60, and with a greater one.
		{[]int{8, 51, 53}, otherOf(51, 51, 8, []int{8, 51, 53, 54, 55, 57, 58, 60}, []int{8, 43, 45}, 8, 8, 8, 8, 8, 8, 3, 2, 1)},
		{[]int{3, 59}, otherOf(59, 59, 3, nil, []int{3, 56}, 3, 3, 3, 3, 3, 3, 3, 3, 3, 3, 3, 3, 3, 3, 3, 3, 3, 3, 3, 2, 1)},
		// A closure with too many Gens: as many as the multiplicity.
		{[]int{17, 23, 54}, otherOf(23, 23, 17, nil, []int{6, 17, 37}, 17, 6, 6, 5, 1)},
		// A long sequence.
		{[]int{2, 59}, arfOf([]int{2, 59}, []int{2, 57}, append(slices.Repeat([]int{2}, 29), 1)...)},
		// No semigroup.
		{nil, arfFacts{}},
		{[]int{0}, arfFacts{}},
		{[]int{2}, arfFacts{}},
		{[]int{5, 3}, arfFacts{}},
		{[]int{3, 5, 8}, arfFacts{}},
		{[]int{2, 61}, arfFacts{}},
		{[]int{4, 6}, arfFacts{}},
	}
	for _, c := range cases {
		if byText := arfFactsByText(c.gens); !byText.equals(c.want) {
			t.Errorf("the test itself is wrong: %d: %v", c.gens, byText)
		}
		if got := arfFactsOf(c.gens); !got.equals(c.want) {
			t.Errorf("of %d, the failure, the closure, the blow-up and the sequence are %v; want %v", c.gens, got, c.want)
		}
	}
}

func TestArfOfSomeSemigroups(t *testing.T) {
	count := map[string]int{}
	for _, gens := range slices.Concat(factoredSemigroups(), smallSemigroups(9), wideSemigroups(), invalidGens()) {
		f := compareArf(t, gens)
		switch {
		case !isSemigroupByText(gens):
			count["none"]++
		case f.isArf:
			count["Arf"]++
		case f.closes:
			count["a closure"]++
		default:
			count["no closure"]++
		}
	}
	if count["none"] < 20 || count["Arf"] < 50 || count["a closure"] < 50 || count["no closure"] < 20 {
		t.Errorf("the test itself is wrong: %v", count)
	}
}

func TestArfOfTriples(t *testing.T) {
	for a := 2; a <= 14; a += 2 {
		for b := a + 1; b <= 44; b += 7 {
			for c := b + 1; c <= 60; c += 9 {
				compareArf(t, []int{a, b, c})
			}
		}
	}
}

// TestLeastArfSemigroup takes the common part of all Arf semigroups around.
func TestLeastArfSemigroup(t *testing.T) {
	isArf := map[string]bool{}
	for _, gens := range smallSemigroups(9) {
		isArf[listTextByText(gens)] = isArfByText(gens)
	}
	for _, gens := range smallSemigroups(9) {
		larger, _ := largerByText(gens)
		around := slices.DeleteFunc(larger, func(over []int) bool { return !isArf[listTextByText(over)] })
		want, _ := meetOfAllByText(around)
		if got, ok := impl.ArfClosure(impl.Semigroup{Gens: gens}); !ok || !slices.Equal(got.Gens, want) || !isArf[listTextByText(got.Gens)] {
			t.Fatalf("ArfClosure(%d) = %d, %v; want %d", gens, got.Gens, ok, want)
		}
	}
}

// TestArfClosureOfClosure: the closure is an Arf semigroup, its own closure, and
// has the same sequence, of which the sums of the first few numbers are its
// elements.
func TestArfClosureOfClosure(t *testing.T) {
	for _, gens := range append(factoredSemigroups(), smallSemigroups(9)...) {
		s := impl.Semigroup{Gens: gens}
		closure, ok := impl.ArfClosure(s)
		if !ok {
			continue
		}
		again, okAgain := impl.ArfClosure(closure)
		if !okAgain || !slices.Equal(again.Gens, closure.Gens) || !impl.IsArf(closure) || !impl.IsWithin(s, closure) {
			t.Fatalf("ArfClosure(%d) = %d, and its closure is %d, %v", gens, closure.Gens, again.Gens, okAgain)
		}
		if impl.IsArf(s) != slices.Equal(closure.Gens, gens) {
			t.Fatalf("ArfClosure(%d) = %d, but IsArf is %v", gens, closure.Gens, impl.IsArf(s))
		}
		sequence, _ := impl.MultiplicitySequence(s)
		other, _ := impl.MultiplicitySequence(closure)
		if !slices.Equal(sequence, other) {
			t.Fatalf("MultiplicitySequence(%d) = %d, but that of the closure %d is %d", gens, sequence, closure.Gens, other)
		}
		sum, small := 0, []int(nil)
		for _, m := range sequence[:len(sequence)-1] {
			small = append(small, sum)
			sum += m
		}
		if !slices.Equal(impl.SmallElements(closure), small) || impl.ConductorOf(closure) != sum {
			t.Fatalf("ArfClosure(%d) = %d with the small elements %d, but the sequence is %d", gens, closure.Gens, impl.SmallElements(closure), sequence)
		}
	}
}

// TestArfFailureOrder: no triple that comes before has x + y - z missing, and
// there are semigroups with several failures.
func TestArfFailureOrder(t *testing.T) {
	several := 0
	for _, gens := range smallSemigroups(9) {
		s := impl.Semigroup{Gens: gens}
		x, y, z, found := impl.ArfFailure(s)
		if !found {
			continue
		}
		first := []int{x, y, z}
		small := impl.SmallElements(s)
		if !slices.Contains(small, x) || !slices.Contains(small, y) || !slices.Contains(small, z) || x < y || y < z || impl.Contains(s, x+y-z) {
			t.Fatalf("ArfFailure(%d) = %d", gens, first)
		}
		failures := 0
		for _, a := range small {
			for _, b := range small {
				for _, c := range small {
					if a < b || b < c || impl.Contains(s, a+b-c) {
						continue
					}
					failures++
					if slices.Compare([]int{a, b, c}, first) < 0 {
						t.Fatalf("ArfFailure(%d) = %d, but %d, %d, %d comes before", gens, first, a, b, c)
					}
				}
			}
		}
		if failures > 1 {
			several++
		}
	}
	if several < 50 {
		t.Errorf("the test itself is wrong: %d semigroups with several failures", several)
	}
}

// TestBlowUpNeverFails: the result has all elements of the semigroup, so that
// there is always one within the limits, and each sequence ends with 1.
func TestBlowUpNeverFails(t *testing.T) {
	for _, gens := range slices.Concat(factoredSemigroups(), smallSemigroups(9), wideSemigroups()) {
		s := impl.Semigroup{Gens: gens}
		blown, ok := impl.BlowUp(s)
		if !ok || !impl.IsWithin(s, blown) || len(blown.Gens) > len(gens) || slices.Equal(blown.Gens, gens) != (gens[0] == 1) {
			t.Fatalf("BlowUp(%d) = %d, %v", gens, blown.Gens, ok)
		}
		sequence, ok := impl.MultiplicitySequence(s)
		if !ok || slices.Index(sequence, 1) != len(sequence)-1 || sequence[0] != gens[0] {
			t.Fatalf("MultiplicitySequence(%d) = %d, %v", gens, sequence, ok)
		}
		if rest, ok := impl.MultiplicitySequence(blown); gens[0] > 1 && (!ok || !slices.Equal(rest, sequence[1:])) {
			t.Fatalf("MultiplicitySequence(%d) = %d, but that of the blow-up %d is %d, %v", gens, sequence, blown.Gens, rest, ok)
		}
	}
}

func TestBlowUpOfSubsets(t *testing.T) {
	for set := range 1 << 10 {
		var list []int
		for g := 1; g <= 10; g++ {
			if set>>(g-1)&1 == 1 {
				list = append(list, g)
			}
		}
		compareArf(t, list)
	}
}

func TestArfOfNoSemigroup(t *testing.T) {
	for _, gens := range append(invalidGens(), []int{48, 60}, []int{1, 1}) {
		if got := arfFactsOf(gens); !got.equals(arfFacts{}) {
			t.Errorf("of %d, which is no semigroup, the failure, the closure, the blow-up and the sequence are %v", gens, got)
		}
	}
}

func arfCalls() map[string]func(s impl.Semigroup) []int {
	return map[string]func(s impl.Semigroup) []int{
		"IsArf":      func(s impl.Semigroup) []int { impl.IsArf(s); return nil },
		"ArfFailure": func(s impl.Semigroup) []int { impl.ArfFailure(s); return nil },
		"ArfClosure": func(s impl.Semigroup) []int {
			closure, _ := impl.ArfClosure(s)
			return closure.Gens
		},
		"BlowUp": func(s impl.Semigroup) []int {
			blown, _ := impl.BlowUp(s)
			return blown.Gens
		},
		"MultiplicitySequence": func(s impl.Semigroup) []int {
			sequence, _ := impl.MultiplicitySequence(s)
			return sequence
		},
	}
}

func TestArfCallsLeaveGens(t *testing.T) {
	checkCallsLeaveGens(t, arfCalls(), slices.Concat(factoredSemigroups(), smallSemigroups(6), invalidGens()))
}

func TestArfResultsAreNewMemory(t *testing.T) {
	checkCallsGiveNewMemory(t, arfCalls(), append(factoredSemigroups(), smallSemigroups(6)...))
}
