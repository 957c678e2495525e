package tests

import (
	"math"
	"slices"
	"testing"

	"loop.example/g00595/impl"
)

// Promise 6: the least elements of the classes tell the greatest gap and the
// number of gaps.

// leastByText finds, for each remainder modulo n, the least sum of gens with
// it, up to most; -1 where there is none.
func leastByText(gens []int, n int, most int) []int {
	least := slices.Repeat([]int{-1}, n)
	for x, isSum := range searchedSums(gens, most) {
		if isSum && least[x%n] < 0 {
			least[x%n] = x
		}
	}
	return least
}

// aperyByText follows the text of the document. No least element of a
// semigroup is beyond 199 + 60.
func aperyByText(gens []int, n int) []int {
	if !isSemigroupByText(gens) || n < 1 || n > 60 || !searchedSums(gens, n)[n] {
		return nil
	}
	return leastByText(gens, n, 300)
}

// fromAperyByText looks at the numbers that are to be the elements: those that
// are not less than the number of their class.
func fromAperyByText(list []int) ([]int, bool) {
	n := len(list)
	if n < 1 || n > 60 || list[0] != 0 {
		return nil, false
	}
	for remainder, x := range list {
		// One beyond 199 + n is not the least if the conductor is at most 200.
		if x < 0 || x > 199+n || x%n != remainder {
			return nil, false
		}
	}
	isElement := func(x int) bool { return x >= list[x%n] }
	for _, x := range list {
		for _, y := range list {
			if !isElement(x + y) {
				return nil, false
			}
		}
	}
	var gens []int
	for x := 1; x <= 300; x++ {
		isSum := false
		for y := 1; y < x; y++ {
			isSum = isSum || isElement(y) && isElement(x-y)
		}
		if isElement(x) && !isSum {
			gens = append(gens, x)
		}
	}
	if !isSemigroupByText(gens) {
		return nil, false
	}
	return gens, true
}

// compareFromApery compares one call with the document's text, and tells
// whether the list is accepted.
func compareFromApery(t *testing.T, list []int) bool {
	t.Helper()
	want, wantOK := fromAperyByText(list)
	s, ok := impl.FromApery(list)
	if !slices.Equal(s.Gens, want) || ok != wantOK {
		t.Fatalf("FromApery(%d) = %d, %v; want %d, %v", list, s.Gens, ok, want, wantOK)
	}
	return ok
}

// compareAperyWithText looks at all functions of chapter 6 for one semigroup
// and one n, and tells whether AperySet gives a set.
func compareAperyWithText(t *testing.T, gens []int, n int) bool {
	t.Helper()
	s := impl.Semigroup{Gens: gens}
	want := aperyByText(gens, n)
	got := impl.AperySet(s, n)
	if !slices.Equal(got, want) {
		t.Fatalf("AperySet(%d, %d) = %d; want %d", gens, n, got, want)
	}
	wantFrobenius, wantGenus := -1, -1
	if len(want) > 0 {
		facts := gapFactsByText(gens)
		wantFrobenius, wantGenus = facts.frobenius, facts.genus
	}
	if f, g := impl.FrobeniusByApery(s, n), impl.GenusByApery(s, n); f != wantFrobenius || g != wantGenus {
		t.Fatalf("FrobeniusByApery, GenusByApery of %d, %d = %d, %d; want %d, %d", gens, n, f, g, wantFrobenius, wantGenus)
	}
	if len(want) == 0 {
		return false
	}
	if f, g := impl.FrobeniusOf(s), impl.GenusOf(s); f != wantFrobenius || g != wantGenus {
		t.Fatalf("FrobeniusOf, GenusOf of %d = %d, %d; want %d, %d", gens, f, g, wantFrobenius, wantGenus)
	}
	if made, ok := impl.FromApery(got); !ok || !slices.Equal(made.Gens, gens) {
		t.Fatalf("FromApery of AperySet(%d, %d) = %d, %v", gens, n, made.Gens, ok)
	}
	return true
}

// moduli are numbers around the limits of n.
func moduli() []int {
	return append(numbersFrom(-3, 70), math.MinInt, math.MinInt+1, -1<<32, -60, 120, 199, 200, 201, 1<<32, 1<<32+1, 1<<32+3, math.MaxInt-1, math.MaxInt)
}

// semigroupsWithLimits are the Gens of some semigroups and of those with a
// conductor of 198, 199 and 200.
func semigroupsWithLimits() [][]int {
	return slices.Concat(validGens(), limitGens()[198], limitGens()[199], limitGens()[200])
}

func TestAperySet(t *testing.T) {
	cases := []struct {
		gens []int
		n    int
		want []int
	}{
		// Generators.
		{[]int{3, 5}, 3, []int{0, 10, 5}},
		{[]int{3, 5}, 5, []int{0, 6, 12, 3, 9}},
		{[]int{2, 3}, 2, []int{0, 3}},
		{[]int{2, 3}, 3, []int{0, 4, 2}},
		{[]int{3, 4, 5}, 3, []int{0, 4, 5}},
		{[]int{4, 6, 9}, 4, []int{0, 9, 6, 15}},
		{[]int{4, 6, 9}, 6, []int{0, 13, 8, 9, 4, 17}},
		{[]int{6, 9, 20}, 6, []int{0, 49, 20, 9, 40, 29}},
		{[]int{5, 51}, 5, []int{0, 51, 102, 153, 204}},
		{numbersFrom(12, 23), 12, append([]int{0}, numbersFrom(13, 23)...)},
		// Elements that are no generators.
		{[]int{3, 5}, 6, []int{0, 13, 8, 3, 10, 5}},
		{[]int{3, 5}, 8, []int{0, 9, 10, 3, 12, 5, 6, 15}},
		{[]int{2, 3}, 4, []int{0, 5, 2, 3}},
		{[]int{4, 6, 9}, 8, []int{0, 9, 10, 19, 4, 13, 6, 15}},
		// The semigroup without gaps.
		{[]int{1}, 1, []int{0}},
		{[]int{1}, 2, []int{0, 1}},
		{[]int{1}, 3, []int{0, 1, 2}},
		{[]int{1}, 60, numbersFrom(0, 59)},
		{[]int{1}, 61, nil},
		{[]int{1}, 0, nil},
		{[]int{1}, -1, nil},
		{[]int{1}, math.MinInt, nil},
		{[]int{1}, math.MaxInt, nil},
		// MaxGen and one more, both of them elements.
		{[]int{2, 3}, 60, append([]int{0, 61}, numbersFrom(2, 59)...)},
		{[]int{2, 3}, 61, nil},
		// Gaps, and numbers that are not from 1 to MaxGen.
		{[]int{3, 5}, 1, nil},
		{[]int{3, 5}, 2, nil},
		{[]int{3, 5}, 4, nil},
		{[]int{3, 5}, 7, nil},
		{[]int{6, 9, 20}, 43, nil},
		{[]int{5, 51}, 59, nil},
		{[]int{3, 5}, 0, nil},
		{[]int{3, 5}, -1, nil},
		{[]int{3, 5}, -3, nil},
		{[]int{3, 5}, -5, nil},
		{[]int{3, 5}, 62, nil},
		{[]int{3, 5}, 200, nil},
		{[]int{3, 5}, 201, nil},
		{[]int{3, 5}, 1<<32 + 3, nil},
		{[]int{3, 5}, math.MinInt, nil},
		{[]int{3, 5}, math.MaxInt, nil},
		// No semigroup.
		{nil, 0, nil},
		{nil, 1, nil},
		{[]int{0}, 0, nil},
		{[]int{2}, 2, nil},
		{[]int{5, 3}, 3, nil},
		{[]int{3, 5, 8}, 3, nil},
		{[]int{5, 52}, 5, nil},
		{[]int{2, 61}, 2, nil},
	}
	for _, c := range cases {
		if got := impl.AperySet(impl.Semigroup{Gens: c.gens}, c.n); !slices.Equal(got, c.want) {
			t.Errorf("AperySet(%d, %d) = %d; want %d", c.gens, c.n, got, c.want)
		}
	}
	if got := impl.AperySet(impl.Semigroup{}, 1); len(got) > 0 {
		t.Errorf("AperySet of the zero Semigroup = %d", got)
	}
}

func TestByApery(t *testing.T) {
	cases := []struct {
		gens             []int
		n                int
		frobenius, genus int
	}{
		{[]int{3, 5}, 3, 7, 4},
		{[]int{3, 5}, 5, 7, 4},
		{[]int{3, 5}, 8, 7, 4},
		{[]int{3, 5}, 60, 7, 4},
		{[]int{3, 5}, 61, -1, -1},
		{[]int{3, 5}, 4, -1, -1},
		{[]int{3, 5}, 1, -1, -1},
		{[]int{3, 5}, 0, -1, -1},
		{[]int{3, 5}, -3, -1, -1},
		{[]int{3, 5}, math.MinInt, -1, -1},
		{[]int{3, 5}, math.MaxInt, -1, -1},
		{[]int{2, 3}, 2, 1, 1},
		{[]int{2, 3}, 60, 1, 1},
		{[]int{3, 4, 5}, 3, 2, 2},
		{[]int{4, 6, 9}, 4, 11, 6},
		{[]int{6, 9, 20}, 6, 43, 22},
		{[]int{6, 9, 20}, 42, 43, 22},
		{[]int{6, 9, 20}, 43, -1, -1},
		{[]int{5, 51}, 5, 199, 100},
		{[]int{5, 51}, 60, 199, 100},
		{numbersFrom(12, 23), 12, 11, 11},
		// Here AperySet does not fail: there is no gap.
		{[]int{1}, 1, -1, 0},
		{[]int{1}, 2, -1, 0},
		{[]int{1}, 60, -1, 0},
		{[]int{1}, 61, -1, -1},
		{[]int{1}, 0, -1, -1},
		{[]int{1}, -1, -1, -1},
		{nil, 1, -1, -1},
		{[]int{2}, 2, -1, -1},
		{[]int{1, 2}, 1, -1, -1},
		{[]int{5, 3}, 3, -1, -1},
		{[]int{5, 52}, 5, -1, -1},
	}
	for _, c := range cases {
		s := impl.Semigroup{Gens: c.gens}
		if f, g := impl.FrobeniusByApery(s, c.n), impl.GenusByApery(s, c.n); f != c.frobenius || g != c.genus {
			t.Errorf("FrobeniusByApery, GenusByApery of %d, %d = %d, %d; want %d, %d", c.gens, c.n, f, g, c.frobenius, c.genus)
		}
	}
}

func TestAperyOfSomeSemigroups(t *testing.T) {
	for _, gens := range semigroupsWithLimits() {
		count := 0
		for _, n := range moduli() {
			if compareAperyWithText(t, gens, n) {
				count++
			}
		}
		if want := len(elementsByText(gens, 60)) - 1; count != want {
			t.Errorf("AperySet of %d gives %d sets; want one for each of %d positive elements", gens, count, want)
		}
	}
}

// TestAperyOfSubsets takes all semigroups with generators up to 11, with every
// n up to one beyond MaxGen.
func TestAperyOfSubsets(t *testing.T) {
	for set := range 1 << 11 {
		var list []int
		for g := 1; g <= 11; g++ {
			if set>>(g-1)&1 == 1 {
				list = append(list, g)
			}
		}
		if isSemigroupByText(list) {
			for n := -1; n <= 61; n++ {
				compareAperyWithText(t, list, n)
			}
		}
	}
}

// TestAperySetTellsTheElements is what the set is for: a number is an element
// exactly if it is not less than the one of its class.
func TestAperySetTellsTheElements(t *testing.T) {
	for _, gens := range semigroupsWithLimits() {
		s := impl.Semigroup{Gens: gens}
		for n := 1; n <= 60; n++ {
			set := impl.AperySet(s, n)
			if len(set) == 0 {
				continue
			}
			for x := range 300 {
				if impl.Contains(s, x) != (x >= set[x%n]) {
					t.Errorf("AperySet(%d, %d) = %d is wrong for %d", gens, n, set, x)
				}
			}
		}
	}
}

func TestAperyOfNoSemigroup(t *testing.T) {
	for _, gens := range append(invalidGens(), nil) {
		s := impl.Semigroup{Gens: gens}
		for _, n := range moduli() {
			set, f, g := impl.AperySet(s, n), impl.FrobeniusByApery(s, n), impl.GenusByApery(s, n)
			if len(set) > 0 || f != -1 || g != -1 {
				t.Errorf("AperySet, FrobeniusByApery and GenusByApery of %d, which is no semigroup, and %d are %d, %d and %d", gens, n, set, f, g)
			}
		}
	}
}

func TestFromApery(t *testing.T) {
	cases := []struct{ list, want []int }{
		{[]int{0}, []int{1}},
		{[]int{0, 1}, []int{1}},
		{numbersFrom(0, 11), []int{1}},
		{numbersFrom(0, 59), []int{1}},
		{append([]int{0, 61}, numbersFrom(2, 59)...), []int{2, 3}},
		{[]int{0, 3}, []int{2, 3}},
		{[]int{0, 4, 2}, []int{2, 3}},
		{[]int{0, 5, 2, 3}, []int{2, 3}},
		{[]int{0, 59}, []int{2, 59}},
		{[]int{0, 10, 5}, []int{3, 5}},
		{[]int{0, 6, 12, 3, 9}, []int{3, 5}},
		{[]int{0, 9, 10, 3, 12, 5, 6, 15}, []int{3, 5}},
		{[]int{0, 4, 5}, []int{3, 4, 5}},
		{[]int{0, 7, 5}, []int{3, 5, 7}},
		{[]int{0, 9, 6, 15}, []int{4, 6, 9}},
		{[]int{0, 49, 20, 9, 40, 29}, []int{6, 9, 20}},
		{[]int{0, 51, 102, 153, 204}, []int{5, 51}},
		{append([]int{0}, numbersFrom(13, 23)...), numbersFrom(12, 23)},
		// A number beyond MaxGen that is a sum of others.
		{[]int{0, 31, 62}, []int{3, 31}},
		// 37 is a sum of 14 and 23, so that there are 12 generators.
		{append(append([]int{0}, numbersFrom(14, 23)...), 37, 25), append(numbersFrom(13, 23), 25)},
	}
	for _, c := range cases {
		if want, ok := fromAperyByText(c.list); !ok || !slices.Equal(want, c.want) {
			t.Fatalf("the test itself is wrong: %d", c.list)
		}
		if got, ok := impl.FromApery(c.list); !slices.Equal(got.Gens, c.want) || !ok {
			t.Errorf("FromApery(%d) = %d, %v; want %d, true", c.list, got.Gens, ok, c.want)
		}
	}
}

// rejectedApery are lists that are the AperySet of no semigroup.
func rejectedApery() [][]int {
	return [][]int{
		nil,
		{},
		// They do not begin with 0.
		{1}, {-1}, {2}, {60}, {3, 10, 5}, {4, 9, 6, 15}, {-3, 10, 5}, {1, 0}, {2, 3}, {2, 1}, {10, 5, 0},
		{math.MinInt}, {math.MaxInt}, {math.MinInt, 3}, {math.MinInt, 10, 5},
		// The remainder of a number is another one.
		{0, 2}, {0, 0}, {0, 4}, {0, 5, 10}, {0, 10, 4}, {0, 11, 5}, {0, 5, 1}, {0, 6, 9, 15}, {0, 9, 6, 16}, {0, 0, 0},
		// Two numbers are in one class.
		{0, 4, 7}, {0, 10, 10}, {0, 5, 5}, {0, 9, 6, 9}, {0, 3, 2, 3}, {0, 9, 4, 15}, {0, 6, 5}, {0, 10, 3},
		// A number is not the least of its class.
		{0, 13, 5}, {0, 10, 23}, {0, 4, 11}, {0, 9, 6, 19}, {0, 13, 30, 15}, {0, 9, 22, 15}, {0, 49, 20, 9, 40, 35},
		{0, 61, 2}, {0, 5, 2, 9}, {0, 6, 12, 3, 14}, {0, 6, 17, 3, 9}, {0, 9, 10, 3, 12, 5, 14, 15},
		// Numbers below zero.
		{0, -1}, {0, -3}, {0, -2, 5}, {0, 10, -1}, {0, -2, -1}, {0, -3, 6, 15}, {0, 9, -2, 15},
		// More than MaxGens Gens.
		append([]int{0}, numbersFrom(14, 25)...),
		append([]int{0}, numbersFrom(15, 27)...),
		append([]int{0}, numbersFrom(61, 119)...),
		// One of Gens is greater than MaxGen.
		{0, 61}, {0, 63}, {0, 201}, {0, 61, 62}, {0, 61, 32}, {0, 61, 122}, {0, 61, 62, 63}, {0, 61, 34, 35},
		// The conductor is beyond MaxConductor.
		{0, 156, 52, 208, 104}, {0, 203}, {0, 202, 101}, {0, 301, 152}, {0, 3001}, {0, 1000003}, {0, 10, 1000001},
		// Numbers of 32 and of 64 bits.
		{0, 1<<32 + 1}, {0, 1<<32 + 3}, {0, 10, 1<<32 + 4}, {0, math.MaxInt}, {0, math.MinInt}, {0, math.MinInt + 1},
		{0, math.MaxInt, 5}, {0, 10, math.MaxInt}, {0, math.MinInt, 5}, {0, 10, math.MinInt}, {0, math.MaxInt, math.MaxInt},
		{0, math.MinInt, math.MaxInt}, {0, math.MaxInt - 1, math.MaxInt}, {0, 9, 6, math.MaxInt}, {0, 9, math.MinInt + 2, 15},
		// More than MaxGen numbers.
		numbersFrom(0, 60),
		append([]int{0, 62}, numbersFrom(2, 60)...),
		numbersFrom(0, 61),
		numbersFrom(0, 199),
		numbersFrom(0, 200000),
		make([]int, 61),
		make([]int, 60),
		make([]int, 200000),
	}
}

func TestFromAperyRejects(t *testing.T) {
	for _, list := range rejectedApery() {
		if _, ok := fromAperyByText(list); ok {
			t.Fatalf("the test itself is wrong: %d", list)
		}
		if s, ok := impl.FromApery(list); len(s.Gens) > 0 || ok {
			t.Errorf("FromApery(%d) = %d, %v; want the zero Semigroup and false", list, s.Gens, ok)
		}
	}
}

// TestFromAperyAtLimits makes the lists of least sums for generators that are
// a semigroup or not, by a search.
func TestFromAperyAtLimits(t *testing.T) {
	cases := []struct {
		gens []int
		n    int
		want bool
	}{
		// Conductors of 198, 199 and 200, and of 201, 202, 203 and 204.
		{[]int{7, 34}, 7, true},
		{[]int{7, 34}, 34, true},
		{[]int{17, 23, 54}, 17, true},
		{[]int{17, 23, 54}, 54, true},
		{[]int{5, 51}, 5, true},
		{[]int{5, 51}, 51, true},
		{[]int{5, 51}, 60, true},
		{[]int{9, 26}, 26, true},
		{[]int{12, 20, 57}, 60, true},
		{[]int{19, 23, 52}, 19, false},
		{[]int{19, 23, 52}, 52, false},
		{[]int{10, 15, 49}, 10, false},
		{[]int{10, 15, 49}, 60, false},
		{[]int{15, 23, 31}, 15, false},
		{[]int{5, 52}, 5, false},
		{[]int{5, 52}, 60, false},
		{[]int{59, 60}, 59, false},
		{[]int{59, 60}, 60, false},
		// 12 generators, and 13.
		{numbersFrom(12, 23), 12, true},
		{numbersFrom(12, 23), 60, true},
		{numbersFrom(45, 56), 56, true},
		{numbersFrom(13, 25), 13, false},
		{numbersFrom(13, 25), 60, false},
		{numbersFrom(46, 57), 46, false},
		// A generator of 60, and of 61.
		{[]int{7, 17, 60}, 7, true},
		{[]int{7, 17, 60}, 60, true},
		{[]int{7, 17, 61}, 7, false},
		{[]int{7, 17, 61}, 17, false},
		{[]int{7, 17, 61}, 58, false},
		{[]int{7, 17, 61}, 61, false},
		{[]int{2, 59}, 2, true},
		{[]int{2, 59}, 59, true},
		{[]int{2, 59}, 60, true},
		{[]int{2, 59}, 61, false},
		{[]int{2, 61}, 2, false},
		{[]int{2, 61}, 60, false},
	}
	for _, c := range cases {
		list := leastByText(c.gens, c.n, 8000)
		if slices.Contains(list, -1) || !searchedSums(c.gens, c.n)[c.n] {
			t.Fatalf("the test itself is wrong: %d, %d", c.gens, c.n)
		}
		s, ok := impl.FromApery(list)
		if ok != c.want || ok && !slices.Equal(s.Gens, c.gens) || !ok && len(s.Gens) > 0 {
			t.Errorf("FromApery of the least sums of %d modulo %d = %d, %v; want %v", c.gens, c.n, s.Gens, ok, c.want)
		}
	}
}

// TestFromAperyOfLeastSums takes moduli that are no elements too: then the
// list belongs to the semigroup with the modulus as a further generator.
func TestFromAperyOfLeastSums(t *testing.T) {
	for _, gens := range semigroupsWithLimits() {
		for n := 1; n <= 70; n++ {
			compareFromApery(t, leastByText(gens, n, 300))
		}
	}
	list := leastByText([]int{3, 5}, 4, 300)
	if s, ok := impl.FromApery(list); !ok || !slices.Equal(s.Gens, []int{3, 4, 5}) {
		t.Errorf("FromApery(%d) = %d, %v; want 3, 4 and 5", list, s.Gens, ok)
	}
}

func TestFromAperyOfShortLists(t *testing.T) {
	numbers := append(numbersFrom(-3, 17), math.MinInt, 61, 62, 199, 200, 201, 202, math.MaxInt-1, math.MaxInt)
	for _, list := range shortLists(numbers, 3) {
		compareFromApery(t, list)
	}
	count := 0
	for _, list := range shortLists(numbersFrom(0, 19), 4) {
		if compareFromApery(t, list) {
			count++
		}
	}
	if count < 50 {
		t.Errorf("the test itself is wrong: only %d lists are accepted", count)
	}
}

// TestFromAperyOfCoordinates takes, for 4, 5 and 6 numbers, all that lie up to
// a few multiples above their remainders.
func TestFromAperyOfCoordinates(t *testing.T) {
	for n := 4; n <= 6; n++ {
		for _, quotients := range shortLists([]int{0, 1, 2, 3, 4}, n-1) {
			if len(quotients) < n-1 {
				continue
			}
			list := []int{0}
			for i, k := range quotients {
				list = append(list, k*n+i+1)
			}
			compareFromApery(t, list)
		}
	}
}

// TestFromAperyOfChangedSets changes one number of each set, or its length.
func TestFromAperyOfChangedSets(t *testing.T) {
	for _, gens := range semigroupsWithLimits() {
		for _, n := range []int{gens[0], gens[len(gens)-1], 60} {
			set := aperyByText(gens, n)
			if set == nil {
				continue
			}
			compareFromApery(t, set[1:])
			compareFromApery(t, set[:n-1])
			compareFromApery(t, append(slices.Clone(set), n))
			for i, x := range set {
				for _, y := range []int{x - n, x + n, x + 2*n, x - 1, x + 1, -x, -1, 0, n, 300, math.MinInt, math.MaxInt} {
					changed := slices.Clone(set)
					changed[i] = y
					compareFromApery(t, changed)
				}
			}
		}
	}
}

func TestAperyCallsLeaveGens(t *testing.T) {
	calls := map[string]func(s impl.Semigroup, n int){
		"AperySet":         func(s impl.Semigroup, n int) { impl.AperySet(s, n) },
		"FrobeniusByApery": func(s impl.Semigroup, n int) { impl.FrobeniusByApery(s, n) },
		"GenusByApery":     func(s impl.Semigroup, n int) { impl.GenusByApery(s, n) },
	}
	for name, call := range calls {
		for _, gens := range append(semigroupsWithLimits(), invalidGens()...) {
			for _, n := range moduli() {
				g := guard(gens)
				call(impl.Semigroup{Gens: g.list}, n)
				g.check(t, name, gens)
			}
		}
	}
}

// TestFromAperyLeavesItsList also looks at lists that are rejected, and at
// those that are long or not in ascending order.
func TestFromAperyLeavesItsList(t *testing.T) {
	lists := rejectedApery()
	for _, gens := range semigroupsWithLimits() {
		for n := 1; n <= 60; n++ {
			lists = append(lists, leastByText(gens, n, 300))
		}
	}
	for _, list := range lists {
		g := guard(list)
		impl.FromApery(g.list)
		g.check(t, "FromApery", list)
	}
}

func TestAperySetsAreNewMemory(t *testing.T) {
	for _, gens := range semigroupsWithLimits() {
		for _, n := range []int{gens[0], gens[len(gens)-1], 60} {
			g := guard(gens)
			s := impl.Semigroup{Gens: g.list}
			first := impl.AperySet(s, n)
			want := slices.Clone(first)
			second := impl.AperySet(s, n)
			scribble(first)
			g.check(t, "AperySet, or a change of its result,", gens)
			third := impl.AperySet(s, n)
			scribble(g.whole)
			if !slices.Equal(second, want) || !slices.Equal(third, want) {
				t.Errorf("AperySet(%d, %d) = %d and %d after others were changed; want %d", gens, n, second, third, want)
			}
		}
	}
}

func TestFromAperyGivesNewMemory(t *testing.T) {
	for _, gens := range semigroupsWithLimits() {
		list := aperyByText(gens, gens[0])
		g := guard(list)
		first, _ := impl.FromApery(g.list)
		second, _ := impl.FromApery(g.list)
		scribble(first.Gens)
		g.check(t, "FromApery, or a change of its result,", list)
		third, ok := impl.FromApery(g.list)
		scribble(g.whole)
		if !ok || !slices.Equal(second.Gens, gens) || !slices.Equal(third.Gens, gens) {
			t.Errorf("FromApery(%d) = %d and %d after others were changed", list, second.Gens, third.Gens)
		}
	}
}
