package tests

import (
	"math"
	"slices"
	"testing"

	"loop.example/g00595/impl"
)

// Promise 7: a list is one of coordinates exactly if nothing clashes and the
// limits hold.

// coordinatesByText follows the text of the document.
func coordinatesByText(gens []int) []int {
	if !isSemigroupByText(gens) {
		return nil
	}
	m := gens[0]
	var list []int
	for _, x := range leastByText(gens, m, 300)[1:] {
		list = append(list, x/m)
	}
	return list
}

// coordinateClashByText asks of each two remainders how much the class of their
// sum requires, by a map from remainders.
func coordinateClashByText(list []int) (impl.Clash, bool) {
	m := len(list) + 1
	k := map[int]int{}
	for i, n := range list {
		if n <= 0 || n >= 201 {
			return impl.Clash{A: i + 1, B: 0}, true
		}
		k[i+1] = n
	}
	for a := 1; a < m; a++ {
		for b := a; b < m; b++ {
			required, asked := k[(a+b)%m]
			if a+b > m {
				required--
			}
			if asked && k[a]+k[b] < required {
				return impl.Clash{A: a, B: b}, true
			}
		}
	}
	return impl.Clash{}, false
}

// fromCoordinatesByText looks for the semigroup with the multiplicity of the
// list in which the least elements are those that the list tells. One of them
// would be at least 61 beyond MaxConductor if a number were greater than 200.
func fromCoordinatesByText(list []int) ([]int, bool) {
	m := len(list) + 1
	set := []int{0}
	for i, n := range list {
		if n < 1 || n > 200 {
			return nil, false
		}
		set = append(set, n*m+i+1)
	}
	return fromAperyByText(set)
}

// compareCoordinates compares the calls for one list with the document's text,
// and tells whether there is no clash and whether the list is accepted.
func compareCoordinates(t *testing.T, list []int) (bool, bool) {
	t.Helper()
	wantClash, wantBad := coordinateClashByText(list)
	clash, bad := impl.CoordinateClash(list)
	if clash != wantClash || bad != wantBad {
		t.Fatalf("CoordinateClash(%d) = %v, %v; want %v, %v", list, clash, bad, wantClash, wantBad)
	}
	want, wantOK := fromCoordinatesByText(list)
	s, ok := impl.FromCoordinates(list)
	if !slices.Equal(s.Gens, want) || ok != wantOK {
		t.Fatalf("FromCoordinates(%d) = %d, %v; want %d, %v", list, s.Gens, ok, want, wantOK)
	}
	if ok && bad {
		t.Fatalf("%d clashes in %v, but FromCoordinates gives %d", list, clash, s.Gens)
	}
	if ok && !slices.Equal(impl.CoordinatesOf(s), list) {
		t.Fatalf("CoordinatesOf FromCoordinates(%d) = %d", list, impl.CoordinatesOf(s))
	}
	return !bad, ok
}

// compareCoordinatesOf looks at one semigroup, and at what its coordinates give.
func compareCoordinatesOf(t *testing.T, gens []int) {
	t.Helper()
	s := impl.Semigroup{Gens: gens}
	list := impl.CoordinatesOf(s)
	if want := coordinatesByText(gens); !slices.Equal(list, want) {
		t.Fatalf("CoordinatesOf(%d) = %d; want %d", gens, list, want)
	}
	if clash, bad := impl.CoordinateClash(list); bad {
		t.Fatalf("CoordinateClash of CoordinatesOf(%d) = %v", gens, clash)
	}
	if made, ok := impl.FromCoordinates(list); !ok || !slices.Equal(made.Gens, gens) {
		t.Fatalf("FromCoordinates of CoordinatesOf(%d) = %d, %v", gens, made.Gens, ok)
	}
}

// greatestMultiplicity is the Gens of a semigroup in which the least of them is
// as great as it can be.
func greatestMultiplicity() []int {
	return slices.Concat(numbersFrom(48, 53), numbersFrom(55, 60))
}

// withNumber returns count ones, with n in the place of the one with an index.
func withNumber(count int, index int, n int) []int {
	list := slices.Repeat([]int{1}, count)
	list[index] = n
	return list
}

func TestCoordinatesOf(t *testing.T) {
	cases := []struct{ gens, want []int }{
		{[]int{1}, nil},
		// The multiplicity 2, up to the greatest generator.
		{[]int{2, 3}, []int{1}},
		{[]int{2, 5}, []int{2}},
		{[]int{2, 59}, []int{29}},
		{[]int{3, 4, 5}, []int{1, 1}},
		{[]int{3, 5}, []int{3, 1}},
		{[]int{3, 7}, []int{2, 4}},
		{[]int{3, 59}, []int{39, 19}},
		{[]int{4, 6, 9}, []int{2, 1, 3}},
		{[]int{4, 5, 6, 7}, []int{1, 1, 1}},
		{[]int{6, 9, 20}, []int{8, 3, 1, 6, 4}},
		// Conductors of 198, 199 and 200.
		{[]int{7, 34}, []int{29, 24, 19, 14, 9, 4}},
		{[]int{17, 23, 54}, []int{4, 8, 3, 7, 11, 1, 5, 9, 4, 8, 12, 2, 6, 10, 5, 9}},
		{[]int{5, 51}, []int{10, 20, 30, 40}},
		// Many numbers.
		{numbersFrom(12, 23), slices.Repeat([]int{1}, 11)},
		{greatestMultiplicity(), append([]int{1, 1, 1, 1, 1, 2, 1, 1, 1, 1, 1, 1}, slices.Concat(slices.Repeat([]int{2}, 12), slices.Repeat([]int{3}, 12), slices.Repeat([]int{4}, 11))...)},
	}
	for _, c := range cases {
		if want := coordinatesByText(c.gens); !slices.Equal(want, c.want) {
			t.Errorf("the test itself is wrong: %d has the coordinates %d", c.gens, want)
		}
		if got := impl.CoordinatesOf(impl.Semigroup{Gens: c.gens}); !slices.Equal(got, c.want) {
			t.Errorf("CoordinatesOf(%d) = %d; want %d", c.gens, got, c.want)
		}
	}
}

// TestCoordinatesOfGreatestMultiplicity: with a multiplicity m from 49 to
// MaxGen, all numbers from m to MaxGen together leave a gap beyond
// MaxConductor, so that 48 is the greatest of a semigroup.
func TestCoordinatesOfGreatestMultiplicity(t *testing.T) {
	compareCoordinatesOf(t, greatestMultiplicity())
	for m := 49; m <= 60; m++ {
		gens := numbersFrom(m, 60)
		if isSemigroupByText(gens) {
			t.Fatalf("the test itself is wrong: %d", gens)
		}
		if got := impl.CoordinatesOf(impl.Semigroup{Gens: gens}); len(got) > 0 {
			t.Errorf("CoordinatesOf(%d) = %d", gens, got)
		}
	}
}

func TestCoordinatesOfNoSemigroup(t *testing.T) {
	for _, gens := range append(invalidGens(), []int{48, 60}, []int{59, 60}, []int{1, 1}) {
		if got := impl.CoordinatesOf(impl.Semigroup{Gens: gens}); len(got) > 0 {
			t.Errorf("CoordinatesOf(%d), which is no semigroup, = %d", gens, got)
		}
	}
	if got := impl.CoordinatesOf(impl.Semigroup{}); len(got) > 0 {
		t.Errorf("CoordinatesOf the zero Semigroup = %d", got)
	}
}

func TestCoordinatesOfSomeSemigroups(t *testing.T) {
	for _, gens := range semigroupsWithLimits() {
		compareCoordinatesOf(t, gens)
	}
}

// TestCoordinatesOfSubsets takes all semigroups with generators up to 12.
func TestCoordinatesOfSubsets(t *testing.T) {
	for set := range 1 << 12 {
		var list []int
		for g := 1; g <= 12; g++ {
			if set>>(g-1)&1 == 1 {
				list = append(list, g)
			}
		}
		if isSemigroupByText(list) {
			compareCoordinatesOf(t, list)
		}
	}
}

// TestCoordinatesTellTheElements is what they are for.
func TestCoordinatesTellTheElements(t *testing.T) {
	for _, gens := range semigroupsWithLimits() {
		s := impl.Semigroup{Gens: gens}
		m := gens[0]
		quotients := append([]int{0}, impl.CoordinatesOf(s)...)
		if len(quotients) != m {
			t.Errorf("CoordinatesOf(%d) has not %d numbers", gens, m-1)
			continue
		}
		for x := range 300 {
			if impl.Contains(s, x) != (x/m >= quotients[x%m]) {
				t.Errorf("CoordinatesOf(%d) = %d is wrong for %d", gens, quotients[1:], x)
			}
		}
	}
}

// clashCase is a list with its clash; A is 0 where there is none.
type clashCase struct {
	list []int
	a, b int
}

func checkClashes(t *testing.T, cases []clashCase) {
	t.Helper()
	for _, c := range cases {
		want := impl.Clash{A: c.a, B: c.b}
		if byText, bad := coordinateClashByText(c.list); byText != want || bad != (c.a > 0) {
			t.Errorf("the test itself is wrong: %d has the clash %v", c.list, byText)
		}
		if got, bad := impl.CoordinateClash(c.list); got != want || bad != (c.a > 0) {
			t.Errorf("CoordinateClash(%d) = %v, %v; want %v, %v", c.list, got, bad, want, c.a > 0)
		}
	}
}

func TestCoordinateClash(t *testing.T) {
	checkClashes(t, []clashCase{
		// No numbers and one, for which A + B can only be the modulus.
		{nil, 0, 0},
		{[]int{}, 0, 0},
		{[]int{1}, 0, 0},
		{[]int{2}, 0, 0},
		{[]int{30}, 0, 0},
		{[]int{199}, 0, 0},
		{[]int{200}, 0, 0},
		{[]int{200, 200}, 0, 0},
		{[]int{3, 1}, 0, 0},
		{[]int{2, 1, 3}, 0, 0},
		{[]int{8, 3, 1, 6, 4}, 0, 0},
		// A equal to B, below the modulus: just enough, and one less.
		{[]int{1, 2}, 0, 0},
		{[]int{1, 3}, 1, 1},
		{[]int{2, 4}, 0, 0},
		{[]int{2, 5}, 1, 1},
		{[]int{100, 200}, 0, 0},
		{[]int{99, 199}, 1, 1},
		{[]int{1, 200}, 1, 1},
		// A equal to B, beyond the modulus.
		{[]int{4, 1}, 2, 2},
		{[]int{5, 2}, 0, 0},
		{[]int{6, 2}, 2, 2},
		{[]int{199, 99}, 0, 0},
		{[]int{200, 99}, 2, 2},
		{[]int{200, 1}, 2, 2},
		{[]int{2, 3, 1}, 0, 0},
		{[]int{2, 4, 1}, 3, 3},
		// A less than B, below the modulus.
		{[]int{1, 2, 3}, 0, 0},
		{[]int{1, 2, 4}, 1, 2},
		{[]int{2, 1, 3}, 0, 0},
		{[]int{2, 1, 4}, 1, 2},
		{[]int{1, 2, 2, 3}, 0, 0},
		{[]int{1, 2, 2, 4}, 1, 3},
		// A less than B, beyond the modulus.
		{[]int{4, 2, 1}, 0, 0},
		{[]int{5, 2, 1}, 2, 3},
		{[]int{1, 2, 3, 1}, 0, 0},
		{[]int{1, 4, 2, 1}, 1, 1},
		{[]int{2, 4, 2, 1}, 0, 0},
		{[]int{3, 5, 2, 1}, 3, 4},
		// A + B equal to the modulus asks nothing.
		{[]int{1, 1}, 0, 0},
		{[]int{2, 1, 2}, 0, 0},
		{[]int{2, 1, 1, 2}, 0, 0},
		{[]int{1, 1, 1, 1, 1}, 0, 0},
	})
}

// TestCoordinateClashOrder has several clashes in a list.
func TestCoordinateClashOrder(t *testing.T) {
	checkClashes(t, []clashCase{
		// (1, 1) before (1, 2).
		{[]int{1, 3, 5}, 1, 1},
		// (1, 2) before (2, 2), and (1, 5) before (2, 2).
		{[]int{1, 1, 3, 3}, 1, 2},
		{[]int{1, 1, 2, 3, 1, 3}, 1, 5},
		// (2, 2) alone.
		{[]int{1, 1, 2, 3, 1, 2}, 2, 2},
		// Pairs with the sum 5: (1, 4) before (2, 3), and (2, 3) alone.
		{[]int{1, 1, 1, 1, 3}, 1, 4},
		{[]int{1, 1, 1, 1, 2}, 0, 0},
		{[]int{2, 1, 1, 1, 3}, 2, 3},
		{[]int{2, 1, 1, 2, 4}, 2, 3},
		// Pairs with the sum 7, the modulus and 1: (2, 5) before (3, 4), and (3, 4) alone.
		{[]int{4, 1, 1, 1, 1, 1}, 2, 6},
		{[]int{4, 1, 1, 1, 1}, 2, 5},
		{[]int{3, 1, 1, 1, 1}, 0, 0},
		{[]int{4, 2, 1, 1, 1}, 3, 4},
		{[]int{4, 1, 1, 1, 2}, 3, 4},
		// Below the modulus before beyond it, and the other way round.
		{[]int{5, 1, 1, 7, 1}, 1, 3},
		{[]int{2, 5, 2, 1, 1}, 1, 1},
		{[]int{6, 1, 1, 2, 1, 3}, 2, 6},
		{[]int{3, 1, 1, 2, 1, 3}, 3, 3},
		// (3, 5) before (4, 4).
		{[]int{3, 5, 1, 1, 1}, 3, 5},
		{[]int{3, 4, 1, 1, 2}, 4, 4},
	})
}

// numbersBeyond are numbers that no list may contain.
func numbersBeyond() []int {
	return []int{0, -1, -2, -200, 201, 202, 1000, 1 << 32, 1<<32 + 1, -1<<32 + 1, math.MinInt, math.MinInt + 1, math.MaxInt - 1, math.MaxInt, 1<<62 + 1, 1 << 63 / 3}
}

// TestCoordinateClashBeyondLimits puts one number that is beyond the limits,
// and two of them, into lists with and without other clashes.
func TestCoordinateClashBeyondLimits(t *testing.T) {
	lists := [][]int{{1}, {1, 1}, {1, 3}, {4, 1}, {3, 1}, {2, 1, 3}, {1, 3, 9, 1}, {200, 1, 200, 1, 200}, slices.Repeat([]int{1}, 59), slices.Repeat([]int{1}, 60)}
	for _, list := range lists {
		for i := range list {
			for _, x := range numbersBeyond() {
				one := slices.Clone(list)
				one[i] = x
				checkClashes(t, []clashCase{{one, i + 1, 0}})
				for j := i + 1; j < min(len(list), i+5); j++ {
					for _, y := range numbersBeyond() {
						two := slices.Clone(one)
						two[j] = y
						checkClashes(t, []clashCase{{two, i + 1, 0}})
					}
				}
			}
		}
	}
	checkClashes(t, []clashCase{
		{[]int{0, 1, 1}, 1, 0},
		{[]int{1, 1, 0}, 3, 0},
		{[]int{201, 1, 1}, 1, 0},
		{[]int{1, 3, 201}, 3, 0},
		{[]int{math.MinInt, 1, math.MaxInt}, 1, 0},
		{[]int{1, math.MaxInt, math.MinInt}, 2, 0},
		{[]int{math.MaxInt, math.MaxInt}, 1, 0},
		{[]int{1, math.MinInt, math.MinInt}, 2, 0},
	})
}

// TestCoordinateClashOfLongLists has no limit of its own for the length.
func TestCoordinateClashOfLongLists(t *testing.T) {
	for _, count := range []int{58, 59, 60, 61, 100, 199, 200, 201, 1000} {
		checkClashes(t, []clashCase{
			{slices.Repeat([]int{1}, count), 0, 0},
			{slices.Repeat([]int{200}, count), 0, 0},
			{withNumber(count, count-1, 2), 0, 0},
			{withNumber(count, count-1, 3), 1, count - 1},
			{withNumber(count, 0, 3), 0, 0},
			{withNumber(count, 0, 4), 2, count},
			{withNumber(count, 1, 3), 1, 1},
			{withNumber(count, count-1, 201), count, 0},
			{withNumber(count, count-1, 0), count, 0},
			{withNumber(count, 0, 0), 1, 0},
		})
	}
	checkClashes(t, []clashCase{{slices.Repeat([]int{1}, 3000), 0, 0}, {make([]int, 200000), 1, 0}, {withNumber(200000, 199999, math.MinInt), 200000, 0}})
}

func TestFromCoordinates(t *testing.T) {
	cases := []struct{ list, want []int }{
		{nil, []int{1}},
		{[]int{}, []int{1}},
		{[]int{1}, []int{2, 3}},
		{[]int{2}, []int{2, 5}},
		{[]int{29}, []int{2, 59}},
		{[]int{1, 1}, []int{3, 4, 5}},
		{[]int{1, 2}, []int{3, 4}},
		{[]int{3, 1}, []int{3, 5}},
		{[]int{2, 1}, []int{3, 5, 7}},
		{[]int{39, 19}, []int{3, 59}},
		{[]int{2, 1, 3}, []int{4, 6, 9}},
		{[]int{8, 3, 1, 6, 4}, []int{6, 9, 20}},
		{[]int{29, 24, 19, 14, 9, 4}, []int{7, 34}},
		{[]int{10, 20, 30, 40}, []int{5, 51}},
		{slices.Repeat([]int{1}, 11), numbersFrom(12, 23)},
		// 37 is a sum of 14 and 23, so that there are 12 generators.
		{withNumber(12, 10, 2), append(numbersFrom(13, 23), 25)},
		{coordinatesByText(greatestMultiplicity()), greatestMultiplicity()},
	}
	for _, c := range cases {
		if want, ok := fromCoordinatesByText(c.list); !ok || !slices.Equal(want, c.want) {
			t.Errorf("the test itself is wrong: %d is of %d", c.list, want)
		}
		if got, ok := impl.FromCoordinates(c.list); !slices.Equal(got.Gens, c.want) || !ok {
			t.Errorf("FromCoordinates(%d) = %d, %v; want %d, true", c.list, got.Gens, ok, c.want)
		}
		if again := impl.CoordinatesOf(impl.Semigroup{Gens: c.want}); !slices.Equal(again, c.list) {
			t.Errorf("CoordinatesOf(%d) = %d; want %d", c.want, again, c.list)
		}
	}
}

// clashingCoordinates are lists in which something clashes.
func clashingCoordinates() [][]int {
	lists := [][]int{
		{1, 3}, {2, 5}, {4, 1}, {6, 2}, {2, 4, 1}, {1, 2, 4}, {5, 2, 1}, {2, 1, 4}, {10, 20, 31, 40}, {10, 21, 30, 40}, {8, 3, 1, 6, 5},
		{200, 1}, {1, 200}, {1, 1, 200}, {200, 1, 1},
		// Semigroups of a lesser multiplicity, in which a number of the list is 0.
		{0}, {0, 0}, {1, 0}, {0, 1}, {3, 0, 1}, {1, 0, 1}, {2, 0, 0, 1}, make([]int, 11), make([]int, 58), make([]int, 59),
		// Products with the modulus that wrap around to small ones.
		{1<<63 - 1}, {-1 << 63}, {-1<<63 + 1}, {-1<<63 + 2}, {1<<62 + 2, 1, 3}, {2, 1<<62 + 1, 3}, {2, 1, -1<<62 + 3}, {-1<<62 + 2, 1<<62 + 1, -1<<63 + 3},
		{-1<<61 + 1, 1, 1, 1, 1, 1, 1}, slices.Repeat([]int{1<<61 + 1}, 7), withNumber(11, 3, 1<<62+1), slices.Repeat([]int{-1<<60 + 1}, 15),
		// Long ones.
		withNumber(11, 10, 3), withNumber(11, 0, 4), withNumber(58, 57, 3), withNumber(59, 58, 3), withNumber(59, 0, 4), withNumber(60, 59, 3), withNumber(200, 0, 201), make([]int, 200000),
	}
	for _, x := range numbersBeyond() {
		lists = append(lists, []int{x}, []int{x, 1}, []int{1, x}, []int{x, x}, withNumber(11, 0, x), withNumber(11, 10, x), withNumber(59, 0, x), withNumber(59, 58, x))
	}
	return lists
}

// tooGreatCoordinates are lists in which nothing clashes, but whose semigroup
// is beyond the limits.
func tooGreatCoordinates() [][]int {
	lists := [][]int{
		// A generator of 61 and more.
		{30}, {31}, {100}, {199}, {200}, {20, 20}, {19, 20}, {20, 19}, {200, 200}, {100, 200}, {9, 7, 15},
		// A conductor of 204 with generators up to 52.
		coordinatesOfSums([]int{5, 52}, 5),
		coordinatesOfSums([]int{15, 23, 31}, 15),
		coordinatesOfSums([]int{10, 15, 49}, 10),
		coordinatesOfSums([]int{19, 23, 52}, 19),
		coordinatesOfSums([]int{7, 17, 61}, 7),
		coordinatesOfSums([]int{59, 60}, 59),
		// More than 12 generators.
		slices.Repeat([]int{1}, 12), slices.Repeat([]int{1}, 13), slices.Repeat([]int{1}, 24), slices.Repeat([]int{2}, 12),
		coordinatesOfSums(numbersFrom(46, 58), 46),
	}
	// The lists of 59 numbers, of 60 and more, for which there is no multiplicity.
	for _, count := range []int{57, 58, 59, 60, 61, 100, 199, 200, 1000} {
		lists = append(lists, slices.Repeat([]int{1}, count), slices.Repeat([]int{2}, count), withNumber(count, count-1, 2), withNumber(count, 0, 3))
	}
	return append(lists, coordinatesOfSums([]int{60, 61}, 60), coordinatesOfSums([]int{60, 119}, 60), coordinatesOfSums(numbersFrom(49, 60), 49))
}

// coordinatesOfSums returns the quotients of the least sums by m, whether or
// not there is a semigroup within the limits.
func coordinatesOfSums(gens []int, m int) []int {
	var list []int
	for _, x := range leastByText(gens, m, 8000)[1:] {
		list = append(list, x/m)
	}
	return list
}

// TestFromCoordinatesOfALongList would not end soon if a clash were searched
// for in a list that is too long.
func TestFromCoordinatesOfALongList(t *testing.T) {
	if s, ok := impl.FromCoordinates(slices.Repeat([]int{1}, 5000000)); len(s.Gens) > 0 || ok {
		t.Errorf("FromCoordinates of 5000000 ones = %d, %v", s.Gens, ok)
	}
}

func TestFromCoordinatesRejects(t *testing.T) {
	for _, list := range clashingCoordinates() {
		if _, bad := coordinateClashByText(list); !bad {
			t.Errorf("the test itself is wrong: %d does not clash", list)
		}
		if s, ok := impl.FromCoordinates(list); len(s.Gens) > 0 || ok {
			t.Errorf("FromCoordinates(%d), which clashes, = %d, %v", list, s.Gens, ok)
		}
	}
	for _, list := range tooGreatCoordinates() {
		clash, bad := coordinateClashByText(list)
		if _, ok := fromCoordinatesByText(list); bad || ok {
			t.Errorf("the test itself is wrong: %d has the clash %v, or is accepted", list, clash)
		}
		if s, ok := impl.FromCoordinates(list); len(s.Gens) > 0 || ok {
			t.Errorf("FromCoordinates(%d), which is beyond the limits, = %d, %v", list, s.Gens, ok)
		}
		if clash, bad := impl.CoordinateClash(list); clash != (impl.Clash{}) || bad {
			t.Errorf("CoordinateClash(%d) = %v, %v; want none", list, clash, bad)
		}
	}
}

// TestFromCoordinatesAtLimits takes generators of semigroups at the limits and
// just beyond them.
func TestFromCoordinatesAtLimits(t *testing.T) {
	cases := []struct {
		gens []int
		want bool
	}{
		// Conductors of 198 to 200, and of 201 to 204.
		{[]int{7, 34}, true},
		{[]int{17, 23, 54}, true},
		{[]int{5, 51}, true},
		{[]int{9, 26}, true},
		{[]int{12, 20, 57}, true},
		{[]int{19, 23, 52}, false},
		{[]int{10, 15, 49}, false},
		{[]int{15, 23, 31}, false},
		{[]int{5, 52}, false},
		// 12 generators, and 13.
		{numbersFrom(12, 23), true},
		{numbersFrom(45, 56), true},
		{numbersFrom(13, 25), false},
		// A generator of 60, and of 61.
		{[]int{7, 17, 60}, true},
		{[]int{7, 17, 61}, false},
		{[]int{2, 59}, true},
		{[]int{2, 61}, false},
		// The multiplicities 48 and 49.
		{greatestMultiplicity(), true},
		{numbersFrom(49, 60), false},
	}
	for _, c := range cases {
		list := coordinatesOfSums(c.gens, c.gens[0])
		if free, ok := compareCoordinates(t, list); !free || ok != c.want {
			t.Errorf("FromCoordinates of the quotients of %d: %v; want %v", c.gens, ok, c.want)
		}
	}
}

// TestShortCoordinates takes lists that are short enough and numbers that are
// small enough for the limits, so that only clashes matter.
func TestShortCoordinates(t *testing.T) {
	sets := []struct{ most, length int }{{14, 2}, {9, 3}, {6, 4}, {4, 5}, {3, 6}}
	for _, set := range sets {
		count := 0
		for _, list := range shortLists(numbersFrom(0, set.most), set.length) {
			free, ok := compareCoordinates(t, list)
			if free != ok {
				t.Fatalf("%d: no clash is %v, but FromCoordinates gives %v", list, free, ok)
			}
			if ok {
				count++
			}
		}
		if count < 50 {
			t.Errorf("the test itself is wrong: only %d lists are accepted", count)
		}
	}
}

// TestEveryCoordinatesOfThree takes all pairs of numbers around the limits: the
// greater the numbers, the more only the limits matter.
func TestEveryCoordinatesOfThree(t *testing.T) {
	for a := -2; a <= 203; a++ {
		compareCoordinates(t, []int{a})
		for b := -2; b <= 203; b++ {
			compareCoordinates(t, []int{a, b})
		}
	}
}

// TestChangedCoordinates changes one number of each list, or its length.
func TestChangedCoordinates(t *testing.T) {
	for _, gens := range append(semigroupsWithLimits(), greatestMultiplicity()) {
		list := coordinatesByText(gens)
		compareCoordinates(t, append(slices.Clone(list), 1))
		for i, n := range list {
			compareCoordinates(t, slices.Delete(slices.Clone(list), i, i+1))
			for _, y := range []int{n - 1, n + 1, n + 2, -n, 0, 1, 199, 200, 201, math.MinInt, math.MaxInt} {
				changed := slices.Clone(list)
				changed[i] = y
				compareCoordinates(t, changed)
			}
		}
	}
}

func TestCoordinateCallsLeaveTheirLists(t *testing.T) {
	lists := slices.Concat(clashingCoordinates(), tooGreatCoordinates())
	for _, gens := range append(semigroupsWithLimits(), greatestMultiplicity()) {
		lists = append(lists, coordinatesByText(gens))
	}
	for _, list := range lists {
		g := guard(list)
		impl.CoordinateClash(g.list)
		g.check(t, "CoordinateClash", list)
		impl.FromCoordinates(g.list)
		g.check(t, "FromCoordinates", list)
	}
}

func TestCoordinatesOfLeavesGens(t *testing.T) {
	for _, gens := range append(semigroupsWithLimits(), invalidGens()...) {
		g := guard(gens)
		impl.CoordinatesOf(impl.Semigroup{Gens: g.list})
		g.check(t, "CoordinatesOf", gens)
	}
}

func TestCoordinatesAreNewMemory(t *testing.T) {
	for _, gens := range semigroupsWithLimits() {
		g := guard(gens)
		s := impl.Semigroup{Gens: g.list}
		first := impl.CoordinatesOf(s)
		want := slices.Clone(first)
		second := impl.CoordinatesOf(s)
		scribble(first)
		g.check(t, "CoordinatesOf, or a change of its result,", gens)
		third := impl.CoordinatesOf(s)
		scribble(g.whole)
		if !slices.Equal(second, want) || !slices.Equal(third, want) {
			t.Errorf("CoordinatesOf(%d) = %d and %d after others were changed; want %d", gens, second, third, want)
		}
	}
}

func TestFromCoordinatesGivesNewMemory(t *testing.T) {
	for _, gens := range semigroupsWithLimits() {
		list := coordinatesByText(gens)
		g := guard(list)
		first, _ := impl.FromCoordinates(g.list)
		second, _ := impl.FromCoordinates(g.list)
		scribble(first.Gens)
		g.check(t, "FromCoordinates, or a change of its result,", list)
		third, ok := impl.FromCoordinates(g.list)
		scribble(g.whole)
		if !ok || !slices.Equal(second.Gens, gens) || !slices.Equal(third.Gens, gens) {
			t.Errorf("FromCoordinates(%d) = %d and %d after others were changed", list, second.Gens, third.Gens)
		}
	}
}
