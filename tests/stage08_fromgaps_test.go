package tests

import (
	"math"
	"slices"
	"testing"

	"loop.example/g00595/impl"
)

// Promise 8: a list is one of gaps exactly if no sum of two other numbers is in
// it and the limits hold.

// mayBeGaps reports whether a list is strictly ascending with numbers from 1
// to 199.
func mayBeGaps(list []int) bool {
	for i, n := range list {
		if n < 1 || n > 199 || i > 0 && n <= list[i-1] {
			return false
		}
	}
	return true
}

// gapClashByText looks at the summands of each number of the list, and keeps
// the pair that comes first.
func gapClashByText(list []int) (impl.Clash, bool) {
	if !mayBeGaps(list) {
		return impl.Clash{}, false
	}
	first, found := impl.Clash{}, false
	for _, sum := range list {
		for a := 1; a <= sum-a; a++ {
			b := sum - a
			if slices.Contains(list, a) || slices.Contains(list, b) {
				continue
			}
			if !found || a < first.A || a == first.A && b < first.B {
				first, found = impl.Clash{A: a, B: b}, true
			}
		}
	}
	return first, found
}

// otherNumbers are the numbers from 0 to most that are not in list.
func otherNumbers(list []int, most int) []int {
	var others []int
	for n := 0; n <= most; n++ {
		if !slices.Contains(list, n) {
			others = append(others, n)
		}
	}
	return others
}

// fromGapsByText asks whether the other numbers are all sums of those up to 60,
// and none of the list is: then the Gens are those of them that are no sums of
// lesser ones.
func fromGapsByText(list []int) ([]int, bool) {
	if !mayBeGaps(list) {
		return nil, false
	}
	small := otherNumbers(list, 60)[1:]
	if !slices.Equal(elementsByText(small, 300), otherNumbers(list, 300)) {
		return nil, false
	}
	var gens []int
	for _, n := range small {
		if !searchedSums(gens, n)[n] {
			gens = append(gens, n)
		}
	}
	if !isSemigroupByText(gens) {
		return nil, false
	}
	return gens, true
}

// fromElementsByText first asks whether small and conductor may be those of the
// same semigroup.
func fromElementsByText(small []int, conductor int) ([]int, bool) {
	if conductor < 0 || conductor > 200 {
		return nil, false
	}
	for i, n := range small {
		if n < 0 || n >= conductor || i > 0 && n <= small[i-1] {
			return nil, false
		}
	}
	if slices.Contains(small, conductor-1) {
		return nil, false
	}
	return fromGapsByText(slices.DeleteFunc(otherNumbers(small, 199), func(n int) bool { return n >= conductor }))
}

// compareFromGaps compares the calls for one list with the document's text,
// and tells whether the list is accepted.
func compareFromGaps(t *testing.T, list []int) bool {
	t.Helper()
	wantClash, wantBad := gapClashByText(list)
	clash, bad := impl.GapClash(list)
	if clash != wantClash || bad != wantBad {
		t.Fatalf("GapClash(%d) = %v, %v; want %v, %v", list, clash, bad, wantClash, wantBad)
	}
	want, wantOK := fromGapsByText(list)
	s, ok := impl.FromGaps(list)
	if !slices.Equal(s.Gens, want) || ok != wantOK {
		t.Fatalf("FromGaps(%d) = %d, %v; want %d, %v", list, s.Gens, ok, want, wantOK)
	}
	if ok && bad {
		t.Fatalf("%d clashes in %v, but FromGaps gives %d", list, clash, s.Gens)
	}
	if ok && !slices.Equal(impl.Gaps(s), list) {
		t.Fatalf("Gaps of FromGaps(%d) = %d", list, impl.Gaps(s))
	}
	return ok
}

// compareFromElements does so for FromElements.
func compareFromElements(t *testing.T, small []int, conductor int) bool {
	t.Helper()
	want, wantOK := fromElementsByText(small, conductor)
	s, ok := impl.FromElements(small, conductor)
	if !slices.Equal(s.Gens, want) || ok != wantOK {
		t.Fatalf("FromElements(%d, %d) = %d, %v; want %d, %v", small, conductor, s.Gens, ok, want, wantOK)
	}
	if ok && (!slices.Equal(impl.SmallElements(s), small) || impl.ConductorOf(s) != conductor) {
		t.Fatalf("FromElements(%d, %d) has the small elements %d and the conductor %d", small, conductor, impl.SmallElements(s), impl.ConductorOf(s))
	}
	return ok
}

// gapCase is a list with its clash; A is 0 where there is none.
type gapCase struct {
	list []int
	a, b int
}

func checkGapClashes(t *testing.T, cases []gapCase) {
	t.Helper()
	for _, c := range cases {
		want := impl.Clash{A: c.a, B: c.b}
		if byText, bad := gapClashByText(c.list); byText != want || bad != (c.a > 0) {
			t.Errorf("the test itself is wrong: %d has the clash %v", c.list, byText)
		}
		if got, bad := impl.GapClash(c.list); got != want || bad != (c.a > 0) {
			t.Errorf("GapClash(%d) = %v, %v; want %v, %v", c.list, got, bad, want, c.a > 0)
		}
	}
}

// oddNumbers returns 1, 3 and so on up to most.
func oddNumbers(most int) []int {
	var list []int
	for n := 1; n <= most; n += 2 {
		list = append(list, n)
	}
	return list
}

// gapsOfSums returns the numbers that are no sums of gens, whether or not there
// is a semigroup within the limits.
func gapsOfSums(gens []int) []int {
	var list []int
	for n, isSum := range searchedSums(gens, 4000) {
		if !isSum {
			list = append(list, n)
		}
	}
	return list
}

func TestGapClash(t *testing.T) {
	checkGapClashes(t, []gapCase{
		// None and one number.
		{nil, 0, 0},
		{[]int{}, 0, 0},
		{[]int{1}, 0, 0},
		{[]int{2}, 1, 1},
		{[]int{3}, 1, 2},
		{[]int{4}, 1, 3},
		{[]int{60}, 1, 59},
		{[]int{198}, 1, 197},
		{[]int{199}, 1, 198},
		// Gaps of semigroups.
		{[]int{1, 2}, 0, 0},
		{[]int{1, 3}, 0, 0},
		{[]int{1, 2, 4}, 0, 0},
		{[]int{1, 2, 5}, 0, 0},
		{[]int{1, 2, 4, 7}, 0, 0},
		{[]int{1, 2, 4, 5, 8, 11}, 0, 0},
		{[]int{1, 2, 3, 5, 7, 11}, 0, 0},
		{oddNumbers(199), 0, 0},
		{numbersFrom(1, 60), 0, 0},
		{numbersFrom(1, 198), 0, 0},
		{numbersFrom(1, 199), 0, 0},
		{append(numbersFrom(1, 99), 199), 0, 0},
		// A equal to B, with the greatest number as their sum or a lesser one.
		{[]int{1, 2, 6}, 3, 3},
		{[]int{1, 3, 4, 5}, 2, 2},
		{append(numbersFrom(1, 98), 198), 99, 99},
		{append(numbersFrom(1, 98), 198, 199), 99, 99},
		// A less than B.
		{[]int{1, 2, 7}, 3, 4},
		{[]int{1, 2, 4, 8}, 3, 5},
		{[]int{1, 2, 4, 5, 10}, 3, 7},
		{[]int{1, 2, 3, 5, 9, 10}, 4, 6},
		{append(numbersFrom(1, 98), 199), 99, 100},
		// Sums that are in the list, of which one summand or both are too.
		{[]int{1, 2, 3, 4, 5}, 0, 0},
		{[]int{2, 3, 5}, 1, 1},
		{[]int{1, 2, 3, 6}, 0, 0},
	})
}

// TestGapClashOrder has several clashes in a list.
func TestGapClashOrder(t *testing.T) {
	checkGapClashes(t, []gapCase{
		// (2, 2) before (2, 5) and (3, 3).
		{[]int{1, 4, 6, 7}, 2, 2},
		// (3, 4) before (3, 5) and (4, 4), and (3, 3) before them.
		{[]int{1, 2, 7, 8}, 3, 4},
		{[]int{1, 2, 6, 7, 8}, 3, 3},
		// (2, 4) before (2, 9), (3, 3), (3, 8) and (4, 7).
		{[]int{1, 6, 11}, 2, 4},
		// (3, 6) before (4, 4), which has the lesser sum and the lesser B.
		{[]int{1, 2, 5, 8, 9, 10}, 3, 6},
		// (3, 7) before (4, 4) and (4, 6).
		{[]int{1, 2, 5, 8, 10, 12}, 3, 7},
		// (3, 9) before (6, 6), with the same sum.
		{[]int{1, 2, 4, 5, 12}, 3, 9},
		{[]int{1, 2, 3, 4, 11, 12}, 5, 6},
		{[]int{1, 2, 4, 5, 7, 10, 17}, 3, 14},
		{[]int{1, 2, 3, 5, 12, 13}, 4, 8},
		{[]int{198, 199}, 1, 197},
		{append(numbersFrom(1, 2), 198, 199), 3, 195},
	})
}

// noGaps are lists that are not strictly ascending or have a number that is not
// from 1 to 199.
func noGaps() [][]int {
	lists := [][]int{
		{2, 1}, {1, 2, 7, 4}, {7, 4, 2, 1}, {2, 1, 4, 7}, {1, 1}, {1, 2, 2}, {1, 1, 2}, {1, 2, 4, 4, 7}, {1, 2, 4, 7, 7}, {3, 3}, {6, 6}, {6, 1, 2}, {1, 6, 2},
		{0, 1}, {0, 1, 2}, {0, 1, 2, 4, 7}, {1, 0}, {1, 0, 2}, {0, 2}, {0, 6}, {-1, 1}, {-1, 2}, {-1, 0, 1}, {-7, -4, -2, -1}, {1, -1}, {-5, 6}, {-200, 199},
		{1, 200}, {1, 2, 200}, {2, 200}, {199, 200}, {1, 201}, {2, 1000}, {200, 1}, {200, 199}, {1, 2, 200, 4},
		{math.MinInt, 1}, {math.MinInt, 2}, {1, math.MinInt}, {1, math.MaxInt}, {2, math.MaxInt}, {math.MaxInt, 1}, {math.MinInt, math.MaxInt}, {math.MaxInt, math.MinInt},
		{1, 1<<32 + 2}, {1<<32 + 1, 1<<32 + 2}, {1, 2, 4, 1<<32 + 7},
		numbersFrom(0, 199), numbersFrom(1, 200), numbersFrom(-3, 3), oddNumbers(201), numbersFrom(1, 200000), make([]int, 200000), slices.Repeat([]int{1}, 200000),
		gapsOfSums([]int{5, 52}), gapsOfSums([]int{19, 23, 52}), gapsOfSums([]int{13, 18}), gapsOfSums([]int{59, 60}),
	}
	for _, x := range []int{0, -1, -2, -199, 200, 201, 1 << 32, 1<<32 + 1, math.MinInt, math.MinInt + 1, math.MaxInt - 1, math.MaxInt} {
		lists = append(lists, []int{x}, []int{x, x})
	}
	return lists
}

func TestGapCallsRejectNoGaps(t *testing.T) {
	for _, list := range noGaps() {
		if mayBeGaps(list) {
			t.Fatalf("the test itself is wrong: %d", list)
		}
		if clash, bad := impl.GapClash(list); clash != (impl.Clash{}) || bad {
			t.Errorf("GapClash(%d) = %v, %v; want no clash", list, clash, bad)
		}
		if s, ok := impl.FromGaps(list); len(s.Gens) > 0 || ok {
			t.Errorf("FromGaps(%d) = %d, %v", list, s.Gens, ok)
		}
	}
}

func TestFromGaps(t *testing.T) {
	cases := []struct{ list, want []int }{
		{nil, []int{1}},
		{[]int{}, []int{1}},
		{[]int{1}, []int{2, 3}},
		{[]int{1, 2}, []int{3, 4, 5}},
		{[]int{1, 3}, []int{2, 5}},
		{[]int{1, 2, 4}, []int{3, 5, 7}},
		{[]int{1, 2, 5}, []int{3, 4}},
		{[]int{1, 2, 4, 7}, []int{3, 5}},
		{[]int{1, 2, 3, 5, 7, 11}, []int{4, 6, 9}},
		{[]int{1, 2, 3, 4, 5, 7, 8, 10, 11, 13, 14, 16, 17, 19, 22, 23, 25, 28, 31, 34, 37, 43}, []int{6, 9, 20}},
		{oddNumbers(57), []int{2, 59}},
		// 12 generators, also where 24, which would be one more, is a gap.
		{numbersFrom(1, 11), numbersFrom(12, 23)},
		{append(numbersFrom(1, 12), 24), append(numbersFrom(13, 23), 25)},
		// Lists that end with 197, 198 and 199.
		{gapsOfSums([]int{7, 34}), []int{7, 34}},
		{gapsOfSums([]int{17, 23, 54}), []int{17, 23, 54}},
		{gapsOfSums([]int{5, 51}), []int{5, 51}},
		{gapsOfSums([]int{12, 20, 57}), []int{12, 20, 57}},
		{gapsOfSums(greatestMultiplicity()), greatestMultiplicity()},
		{gapsOfSums([]int{7, 17, 60}), []int{7, 17, 60}},
	}
	for _, c := range cases {
		if want, ok := fromGapsByText(c.list); !ok || !slices.Equal(want, c.want) {
			t.Errorf("the test itself is wrong: %d are the gaps of %d", c.list, want)
		}
		if got, ok := impl.FromGaps(c.list); !slices.Equal(got.Gens, c.want) || !ok {
			t.Errorf("FromGaps(%d) = %d, %v; want %d, true", c.list, got.Gens, ok, c.want)
		}
	}
}

// clashingGaps are lists that contain a sum of two other numbers.
func clashingGaps() [][]int {
	return [][]int{
		{2}, {3}, {4}, {61}, {198}, {199}, {2, 3}, {1, 4}, {1, 2, 6}, {1, 2, 7}, {1, 2, 8}, {1, 3, 4, 5}, {1, 2, 4, 8}, {1, 2, 4, 7, 10}, {1, 2, 4, 7, 199},
		{1, 4, 6, 7}, {1, 6, 11}, {1, 2, 5, 8, 9, 10}, {1, 199}, {198, 199}, numbersFrom(2, 199), append(numbersFrom(1, 98), 198), append(numbersFrom(1, 98), 199),
		append(numbersFrom(1, 11), 24), append(numbersFrom(1, 60), 122), append(oddNumbers(57), 61), append(oddNumbers(57), 199), append(numbersFrom(1, 60), 150),
	}
}

// tooGreatGaps are lists without a clash whose semigroup is beyond the limits.
func tooGreatGaps() [][]int {
	return [][]int{
		// More than 12 generators.
		numbersFrom(1, 12), numbersFrom(1, 13), numbersFrom(1, 25), append(numbersFrom(1, 13), 27), append(numbersFrom(1, 13), 15), numbersFrom(1, 29),
		// A generator of 61 and more.
		oddNumbers(59), oddNumbers(61), oddNumbers(197), oddNumbers(199),
		gapsOfSums([]int{7, 17, 61}), gapsOfSums([]int{3, 61}), gapsOfSums([]int{3, 61, 62}), gapsOfSums([]int{3, 100}), gapsOfSums([]int{4, 30, 37, 63}), gapsOfSums([]int{5, 76, 128, 137}),
		// Both.
		numbersFrom(1, 30), numbersFrom(1, 47), numbersFrom(1, 48), numbersFrom(1, 59), numbersFrom(1, 60), numbersFrom(1, 61), numbersFrom(1, 198), numbersFrom(1, 199),
		append(numbersFrom(1, 99), 199), append(numbersFrom(1, 60), 121),
	}
}

func TestFromGapsRejects(t *testing.T) {
	for _, list := range clashingGaps() {
		if _, bad := gapClashByText(list); !bad {
			t.Errorf("the test itself is wrong: %d does not clash", list)
		}
		compareFromGaps(t, list)
	}
	for _, list := range tooGreatGaps() {
		clash, bad := gapClashByText(list)
		if _, ok := fromGapsByText(list); bad || ok || !mayBeGaps(list) {
			t.Errorf("the test itself is wrong: %d has the clash %v, or is accepted", list, clash)
		}
		compareFromGaps(t, list)
	}
	for _, list := range slices.Concat(clashingGaps(), tooGreatGaps()) {
		if s, ok := impl.FromGaps(list); len(s.Gens) > 0 || ok {
			t.Errorf("FromGaps(%d) = %d, %v", list, s.Gens, ok)
		}
	}
}

// TestFromGapsOfSubsets takes all lists of numbers up to 12 but that of all of
// them. Without a clash, there are at most 12 generators, none of them beyond
// 24, so that only clashes matter.
func TestFromGapsOfSubsets(t *testing.T) {
	for set := range 1<<12 - 1 {
		var list []int
		for n := 1; n <= 12; n++ {
			if set>>(n-1)&1 == 1 {
				list = append(list, n)
			}
		}
		_, bad := gapClashByText(list)
		if ok := compareFromGaps(t, list); ok == bad {
			t.Fatalf("%d: a clash is %v, but FromGaps gives %v", list, bad, ok)
		}
	}
}

// TestCountOfGenus counts the semigroups with a number of gaps, which is known.
func TestCountOfGenus(t *testing.T) {
	counts := []int{1, 1, 2, 4, 7, 12, 23, 39}
	got := make([]int, len(counts))
	for set := range 1 << 13 {
		var list []int
		for n := 1; n <= 13; n++ {
			if set>>(n-1)&1 == 1 {
				list = append(list, n)
			}
		}
		if _, ok := impl.FromGaps(list); ok && len(list) < len(counts) {
			got[len(list)]++
		}
	}
	if !slices.Equal(got, counts) {
		t.Errorf("FromGaps accepts %d lists of 0, 1 and so on numbers; want %d", got, counts)
	}
}

func TestFromGapsOfShortLists(t *testing.T) {
	numbers := append(numbersFrom(-2, 9), math.MinInt, 59, 60, 61, 198, 199, 200, 201, math.MaxInt)
	for _, list := range shortLists(numbers, 3) {
		compareFromGaps(t, list)
	}
}

// TestFromGapsOfSomeSemigroups also leaves out one of the gaps, and adds a
// number to them.
func TestFromGapsOfSomeSemigroups(t *testing.T) {
	for _, gens := range append(semigroupsWithLimits(), greatestMultiplicity()) {
		list := gapFactsByText(gens).gaps
		if made, ok := impl.FromGaps(impl.Gaps(impl.Semigroup{Gens: gens})); !ok || !slices.Equal(made.Gens, gens) {
			t.Fatalf("FromGaps of the Gaps of %d = %d, %v", gens, made.Gens, ok)
		}
		for _, n := range []int{1, 2, 3, 7, 12, 31, 59, 60, 61, 62, 120, 198, 199, 200} {
			changed := append(slices.Clone(list), n)
			compareFromGaps(t, changed)
			slices.Sort(changed)
			compareFromGaps(t, changed)
		}
		for i := range min(len(list), 40) {
			compareFromGaps(t, slices.Delete(slices.Clone(list), i, i+1))
			compareFromGaps(t, slices.Delete(slices.Clone(list), len(list)-1-i, len(list)-i))
		}
		compareFromGaps(t, gens)
	}
}

// TestGapsOfChosenGens takes many generators, some beyond the limits.
func TestGapsOfChosenGens(t *testing.T) {
	count := 0
	for a := 2; a <= 14; a++ {
		for b := a + 1; b <= 64; b++ {
			for _, c := range []int{b + 1, b + 3, 60, 61, 75} {
				list := gapsOfSums([]int{a, b, c})
				if len(list) < 200 && compareFromGaps(t, list) {
					count++
				}
			}
		}
	}
	if count < 500 {
		t.Errorf("the test itself is wrong: only %d lists are accepted", count)
	}
}

func TestFromElements(t *testing.T) {
	cases := []struct {
		small     []int
		conductor int
		want      []int
	}{
		{nil, 0, []int{1}},
		{[]int{}, 0, []int{1}},
		{[]int{0}, 2, []int{2, 3}},
		{[]int{0}, 3, []int{3, 4, 5}},
		{[]int{0, 2}, 4, []int{2, 5}},
		{[]int{0, 3}, 5, []int{3, 5, 7}},
		{[]int{0, 3, 4}, 6, []int{3, 4}},
		{[]int{0, 3, 5, 6}, 8, []int{3, 5}},
		{[]int{0, 4, 6, 8, 9, 10}, 12, []int{4, 6, 9}},
		// Without 3 or 5, the elements of <3,5> are those of another semigroup.
		{[]int{0, 5, 6}, 8, []int{5, 6, 8, 9}},
		{[]int{0, 3, 6}, 8, []int{3, 8, 10}},
		{[]int{0, 6, 9, 12, 15, 18, 20, 21, 24, 26, 27, 29, 30, 32, 33, 35, 36, 38, 39, 40, 41, 42}, 44, []int{6, 9, 20}},
		{[]int{0}, 12, numbersFrom(12, 23)},
		{gapFactsByText([]int{2, 59}).small, 58, []int{2, 59}},
		{gapFactsByText([]int{7, 34}).small, 198, []int{7, 34}},
		{gapFactsByText([]int{17, 23, 54}).small, 199, []int{17, 23, 54}},
		{gapFactsByText([]int{5, 51}).small, 200, []int{5, 51}},
	}
	for _, c := range cases {
		if want, ok := fromElementsByText(c.small, c.conductor); !ok || !slices.Equal(want, c.want) {
			t.Errorf("the test itself is wrong: %d, %d are of %d", c.small, c.conductor, want)
		}
		if got, ok := impl.FromElements(c.small, c.conductor); !slices.Equal(got.Gens, c.want) || !ok {
			t.Errorf("FromElements(%d, %d) = %d, %v; want %d, true", c.small, c.conductor, got.Gens, ok, c.want)
		}
	}
}

// elementsCase are arguments of FromElements.
type elementsCase struct {
	small     []int
	conductor int
}

// rejectedElements are those for which there is no semigroup.
func rejectedElements() []elementsCase {
	cases := []elementsCase{
		// Elements with the conductor 0, and the conductor 1.
		{[]int{0}, 0}, {[]int{0, 1}, 0}, {[]int{-1}, 0}, {[]int{1}, 0}, {nil, 1}, {[]int{0}, 1}, {[]int{1}, 1}, {[]int{0, 1}, 1}, {[]int{-1}, 1},
		// A lesser conductor, a greater one, and one for which the list has an element too many.
		{[]int{0, 3, 5, 6}, 7}, {[]int{0, 3, 5}, 6}, {[]int{0, 3, 5, 6}, 9}, {[]int{0, 3, 5, 6}, 10}, {[]int{0, 3, 5, 6, 8}, 9}, {[]int{0, 3, 5, 6, 8, 9}, 10}, {[]int{0, 1}, 2}, {[]int{0, 1, 2, 3}, 4},
		{[]int{0, 2}, 2}, {[]int{0, 2}, 3}, {[]int{0, 2}, 5}, {[]int{0, 2, 4}, 5}, {[]int{0, 2, 3}, 4},
		// No 0.
		{nil, 2}, {nil, 3}, {nil, 200}, {[]int{3, 5, 6}, 8}, {[]int{1}, 2}, {[]int{2}, 4}, {[]int{-1, 3, 5, 6}, 8},
		// Not in ascending order, and elements twice.
		{[]int{0, 5, 3, 6}, 8}, {[]int{3, 0, 5, 6}, 8}, {[]int{6, 5, 3, 0}, 8}, {[]int{0, 3, 6, 5}, 8}, {[]int{0, 0}, 2}, {[]int{0, 0, 3, 5, 6}, 8}, {[]int{0, 3, 3, 5, 6}, 8}, {[]int{0, 3, 5, 6, 6}, 8}, {[]int{0, 3, 5, 6, 0}, 8},
		// Elements that are not less than the conductor.
		{[]int{0, 3, 5, 6, 8}, 8}, {[]int{0, 3, 5, 6, 9}, 8}, {[]int{0, 3, 5, 6, 200}, 8}, {[]int{0, 2}, 2}, {[]int{0, 3}, 3}, {[]int{0, 3, 5, 6, math.MaxInt}, 8}, {[]int{0, 3, 5, 6, 1<<32 + 7}, 8}, {[]int{8, 0, 3, 5, 6}, 8},
		// Elements below zero.
		{[]int{-1, 0, 3, 5, 6}, 8}, {[]int{-3, 0, 3, 5, 6}, 8}, {[]int{math.MinInt, 0, 3, 5, 6}, 8}, {[]int{0, 3, 5, 6, -1}, 8}, {[]int{0, -3, 5, 6}, 8}, {[]int{-1, 0}, 2},
		// An element is missing, or there is one more.
		{[]int{0, 3, 5}, 8}, {[]int{0, 4, 6, 9, 10}, 12}, {[]int{0, 6, 8, 9, 10}, 13}, {[]int{0, 1, 3, 5, 6}, 8}, {[]int{0, 2, 3, 5, 6}, 8}, {[]int{0, 3, 4, 5, 6}, 8}, {[]int{0, 3, 5, 6, 7}, 8},
		// More than 12 generators, and one of 61 and more.
		{[]int{0}, 13}, {[]int{0}, 14}, {[]int{0}, 60}, {[]int{0}, 61}, {[]int{0}, 199}, {[]int{0}, 200}, {[]int{0, 14}, 16}, {[]int{0, 100}, 200},
		{gapFactsByText([]int{2, 61}).small, 60}, {gapFactsByText([]int{3, 61}).small, 120}, {gapFactsByText([]int{5, 76, 128, 137}).small, 200},
		// The conductor is beyond the limits.
		{elementsByText([]int{19, 23, 52}, 200), 201}, {elementsByText([]int{5, 52}, 203), 204}, {elementsByText([]int{5, 51}, 199), 201}, {elementsByText([]int{3, 5}, 200), 201},
		// Many elements.
		{numbersFrom(0, 198), 200}, {numbersFrom(0, 199), 200}, {numbersFrom(0, 200), 200}, {numbersFrom(0, 200000), 8}, {numbersFrom(0, 200000), 0}, {make([]int, 200000), 2},
	}
	for _, small := range [][]int{nil, {0}, {0, 3, 5, 6}, numbersFrom(0, 199)} {
		for _, conductor := range []int{201, 202, 1000, -1, -2, -8, -200, 1 << 32, 1<<32 + 8, 1<<32 + 2, -1 << 32, math.MinInt, math.MinInt + 8, math.MaxInt - 1, math.MaxInt} {
			cases = append(cases, elementsCase{small, conductor})
		}
	}
	return cases
}

func TestFromElementsRejects(t *testing.T) {
	for _, c := range rejectedElements() {
		if want, ok := fromElementsByText(c.small, c.conductor); ok {
			t.Fatalf("the test itself is wrong: %d, %d are of %d", c.small, c.conductor, want)
		}
		if s, ok := impl.FromElements(c.small, c.conductor); len(s.Gens) > 0 || ok {
			t.Errorf("FromElements(%d, %d) = %d, %v", c.small, c.conductor, s.Gens, ok)
		}
	}
}

// TestFromElementsOfSubsets takes all lists of numbers from 0 to 9 with all
// conductors around them.
func TestFromElementsOfSubsets(t *testing.T) {
	count := 0
	for set := range 1 << 10 {
		var small []int
		for n := range 10 {
			if set>>n&1 == 1 {
				small = append(small, n)
			}
		}
		for conductor := -1; conductor <= 11; conductor++ {
			if compareFromElements(t, small, conductor) {
				count++
			}
		}
	}
	if count < 50 {
		t.Errorf("the test itself is wrong: only %d lists are accepted", count)
	}
}

func TestFromElementsOfShortLists(t *testing.T) {
	numbers := append(numbersFrom(-1, 5), math.MinInt, 199, 200, math.MaxInt)
	for _, small := range shortLists(numbers, 3) {
		for _, conductor := range append(numbersFrom(-1, 7), math.MinInt, 199, 200, 201, math.MaxInt) {
			compareFromElements(t, small, conductor)
		}
	}
}

// TestFromElementsOfSomeSemigroups also takes other conductors, leaves out one
// of the elements, and adds a number to them.
func TestFromElementsOfSomeSemigroups(t *testing.T) {
	for _, gens := range append(semigroupsWithLimits(), greatestMultiplicity()) {
		s := impl.Semigroup{Gens: gens}
		facts := gapFactsByText(gens)
		if made, ok := impl.FromElements(impl.SmallElements(s), impl.ConductorOf(s)); !ok || !slices.Equal(made.Gens, gens) {
			t.Fatalf("FromElements of the SmallElements and the conductor of %d = %d, %v", gens, made.Gens, ok)
		}
		for _, conductor := range []int{facts.conductor - 2, facts.conductor - 1, facts.conductor + 1, facts.conductor + 2} {
			compareFromElements(t, facts.small, conductor)
			below := slices.DeleteFunc(elementsByText(gens, 300), func(n int) bool { return n >= conductor })
			if compareFromElements(t, below, conductor) && conductor > facts.conductor {
				t.Fatalf("FromElements(%d, %d) is true, but the conductor of %d is %d", below, conductor, gens, facts.conductor)
			}
		}
		for _, n := range []int{0, 1, 2, 7, 31, 60, 61, facts.conductor - 1, facts.conductor, 199, 200} {
			changed := append(slices.Clone(facts.small), n)
			compareFromElements(t, changed, facts.conductor)
			slices.Sort(changed)
			compareFromElements(t, changed, facts.conductor)
		}
		for i := range min(len(facts.small), 40) {
			compareFromElements(t, slices.Delete(slices.Clone(facts.small), i, i+1), facts.conductor)
		}
	}
}

func TestGapListsAreNotChanged(t *testing.T) {
	lists := slices.Concat(noGaps(), clashingGaps(), tooGreatGaps())
	for _, gens := range append(semigroupsWithLimits(), greatestMultiplicity()) {
		lists = append(lists, gapFactsByText(gens).gaps)
	}
	for _, list := range lists {
		g := guard(list)
		impl.GapClash(g.list)
		g.check(t, "GapClash", list)
		impl.FromGaps(g.list)
		g.check(t, "FromGaps", list)
	}
}

func TestFromElementsLeavesItsList(t *testing.T) {
	cases := rejectedElements()
	for _, gens := range append(semigroupsWithLimits(), greatestMultiplicity()) {
		facts := gapFactsByText(gens)
		cases = append(cases, elementsCase{facts.small, facts.conductor})
	}
	for _, c := range cases {
		g := guard(c.small)
		impl.FromElements(g.list, c.conductor)
		g.check(t, "FromElements", c.small)
	}
}

func TestFromGapsAndElementsGiveNewMemory(t *testing.T) {
	for _, gens := range semigroupsWithLimits() {
		facts := gapFactsByText(gens)
		calls := map[string]func(list []int) (impl.Semigroup, bool){
			"FromGaps":     impl.FromGaps,
			"FromElements": func(list []int) (impl.Semigroup, bool) { return impl.FromElements(list, facts.conductor) },
		}
		lists := map[string][]int{"FromGaps": facts.gaps, "FromElements": facts.small}
		for name, call := range calls {
			g := guard(lists[name])
			first, _ := call(g.list)
			second, _ := call(g.list)
			scribble(first.Gens)
			g.check(t, name+", or a change of its result,", lists[name])
			third, ok := call(g.list)
			scribble(g.whole)
			if !ok || !slices.Equal(second.Gens, gens) || !slices.Equal(third.Gens, gens) {
				t.Errorf("%s(%d) = %d and %d after others were changed", name, lists[name], second.Gens, third.Gens)
			}
		}
	}
}
