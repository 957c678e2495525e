package tests

import (
	"math"
	"slices"
	"testing"

	"loop.example/g00595/impl"
)

// Promise 16: the canonical ideal mirrors the semigroup.

// isValidByText is what chapter 16 says of a list.
func isValidByText(list []int) bool {
	return len(list) >= 1 && len(list) <= 20 && !slices.ContainsFunc(list, func(n int) bool { return n < -200 || n > 200 })
}

// idealNumbers tells of the numbers from least on, as many as count, whether
// they are in the ideal of list.
func idealNumbers(gens []int, list []int, least int, count int) []bool {
	isElement := searchedSums(gens, 200)
	in := make([]bool, count)
	for i := range in {
		in[i] = slices.ContainsFunc(list, func(n int) bool {
			difference := least + i - n
			return difference >= 200 || difference >= 0 && isElement[difference]
		})
	}
	return in
}

// neededOf returns the numbers of a set, given from least on, that are no sum of
// another one and an element.
func neededOf(gens []int, set []bool, least int) []int {
	isElement := searchedSums(gens, len(set))
	var needed []int
	for i := range set {
		isSum := false
		for j := range i {
			isSum = isSum || set[j] && isElement[i-j]
		}
		if set[i] && !isSum {
			needed = append(needed, least+i)
		}
	}
	return needed
}

func inIdealByText(gens []int, list []int, x int) bool {
	return isSemigroupByText(gens) && isValidByText(list) && within(x) && idealNumbers(gens, list, x, 1)[0]
}

// idealGensByText needs no numbers beyond the greatest of the list.
func idealGensByText(gens []int, list []int) []int {
	if !isSemigroupByText(gens) || !isValidByText(list) {
		return nil
	}
	least := slices.Min(list)
	return neededOf(gens, idealNumbers(gens, list, least, slices.Max(list)-least+1), least)
}

// idealSumByText adds the numbers of both ideals, not only those of the lists.
func idealSumByText(gens []int, a []int, b []int) []int {
	if !isSemigroupByText(gens) || !isValidByText(a) || !isValidByText(b) {
		return nil
	}
	leastA, leastB := slices.Min(a), slices.Min(b)
	count := slices.Max(a) - leastA + slices.Max(b) - leastB + 1
	inA, inB := idealNumbers(gens, a, leastA, count), idealNumbers(gens, b, leastB, count)
	sums := make([]bool, count)
	for i := range count {
		for j := 0; i+j < count; j++ {
			sums[i+j] = sums[i+j] || inA[i] && inB[j]
		}
	}
	return neededOf(gens, sums, leastA+leastB)
}

// dualByText tries the numbers from -200 to 500, of which those from 400 on are
// all in the dual. The sums with numbers of the ideal from 400 on are at least
// 200.
func dualByText(gens []int, list []int) []int {
	if !isSemigroupByText(gens) || !isValidByText(list) {
		return nil
	}
	isElement := searchedSums(gens, 1000)
	in := idealNumbers(gens, list, -200, 601)
	dual := make([]bool, 701)
	for i := range dual {
		all := true
		for j := range in {
			sum := i - 200 + j - 200
			all = all && (!in[j] || sum >= 0 && isElement[sum])
		}
		dual[i] = all
	}
	return neededOf(gens, dual, -200)
}

// canonicalByText tries the numbers from -5 to 300: the greatest gap and the
// greatest multiplicity together are less.
func canonicalByText(gens []int) []int {
	if !isSemigroupByText(gens) {
		return nil
	}
	isElement := searchedSums(gens, 300)
	f := gapFactsByText(gens).frobenius
	var in []bool
	for x := -5; x <= 300; x++ {
		in = append(in, f-x < 0 || !isElement[f-x])
	}
	return neededOf(gens, in, -5)
}

// upTo returns count numbers in steps, the first one at last.
func upTo(last int, step int, count int) []int {
	var list []int
	for i := range count {
		list = append(list, last-i*step)
	}
	return list
}

// validLists are valid, in ascending order and not, with numbers that are not
// needed and with those that occur several times.
func validLists() [][]int {
	return [][]int{
		{0}, {1}, {-1}, {7}, {-3}, {200}, {-200}, {199}, {-199}, {100},
		{2, 7}, {7, 2}, {2, 7, 5}, {0, 1}, {1, 0}, {0, 2}, {-1, 0}, {0, 0}, {5, 5, 5}, {-4, -4, 3},
		{200, -200}, {-200, 200}, {-200, 0, 200}, {200, 199, 198}, {-198, -200, -199}, {0, 200}, {200, 0}, {-200, 0}, {0, -200},
		{3, 1, 2}, {-7, 3, -2, 8}, {12, 4, 9, 4, 12}, {0, 43, 37, 31}, {-60, -1, 60, 1},
		numbersFrom(0, 19), numbersFrom(-200, -181), numbersFrom(181, 200), numbersFrom(-10, 9), upTo(200, 1, 20), upTo(200, 21, 20), upTo(-5, 3, 20), upTo(190, 7, 12),
		slices.Repeat([]int{6}, 20), slices.Repeat([]int{4, -9}, 10), append(slices.Repeat([]int{0}, 19), 200), append(slices.Repeat([]int{0}, 19), -200),
	}
}

// notValidLists are too short, too long or have a number beyond the limits
// first, last or between.
func notValidLists() [][]int {
	lists := [][]int{
		nil, {}, numbersFrom(0, 20), numbersFrom(-200, -180), slices.Repeat([]int{6}, 21), make([]int, 21), numbersFrom(-100, 100),
		append(numbersFrom(1, 19), 201), append(numbersFrom(1, 20), 201),
	}
	for _, n := range []int{-201, 201, -202, 202, 1000, -1000, 1 << 32, -1 << 32, math.MinInt, math.MaxInt} {
		lists = append(lists, []int{n}, []int{n, 0}, []int{0, n}, []int{3, n, 4}, []int{n, n})
	}
	return lists
}

func TestInIdeal(t *testing.T) {
	const most = 1000000
	cases := []struct {
		gens, list []int
		x          int
		want       bool
	}{
		{[]int{3, 5}, []int{2, 7}, 5, true},
		{[]int{3, 5}, []int{2, 7}, 4, false},
		{[]int{3, 5}, nil, 0, false},
		{[]int{3, 5}, []int{-3}, 0, true},
		{[]int{3, 5}, []int{201}, 300, false},
		// Numbers of the list, and those just below them.
		{[]int{3, 5}, []int{2, 7}, 2, true},
		{[]int{3, 5}, []int{2, 7}, 7, true},
		{[]int{3, 5}, []int{2, 7}, 1, false},
		{[]int{3, 5}, []int{2, 7}, 6, false},
		{[]int{3, 5}, []int{2, 6}, 6, true},
		{[]int{3, 5}, []int{2, 6}, 9, true},
		{[]int{3, 5}, []int{2}, 9, false},
		{[]int{3, 5}, []int{2}, 10, true},
		{[]int{3, 5}, []int{0}, 0, true},
		{[]int{3, 5}, []int{0}, -1, false},
		{[]int{3, 5}, []int{0}, 7, false},
		{[]int{3, 5}, []int{0}, 8, true},
		{[]int{3, 5}, []int{-10}, -10, true},
		{[]int{3, 5}, []int{-10}, -11, false},
		{[]int{3, 5}, []int{-10}, -3, false},
		{[]int{3, 5}, []int{-10}, -2, true},
		{[]int{3, 5}, []int{7, 0}, 7, true},
		// -200, -201, 200 and 201, first and last.
		{[]int{3, 5}, []int{-200}, -200, true},
		{[]int{3, 5}, []int{-200, 4}, -201, false},
		{[]int{3, 5}, []int{4, -200}, -197, true},
		{[]int{3, 5}, []int{-201}, 0, false},
		{[]int{3, 5}, []int{-201, 0}, 0, false},
		{[]int{3, 5}, []int{0, -201}, 0, false},
		{[]int{3, 5}, []int{200}, 200, true},
		{[]int{3, 5}, []int{200}, 199, false},
		{[]int{3, 5}, []int{200, 0}, 207, true},
		{[]int{3, 5}, []int{0, 201}, 0, false},
		{[]int{3, 5}, []int{201, 0}, 0, false},
		// 20 and 21 numbers.
		{[]int{3, 5}, slices.Repeat([]int{4}, 20), 4, true},
		{[]int{3, 5}, slices.Repeat([]int{4}, 21), 4, false},
		{[]int{3, 5}, numbersFrom(1, 20), 20, true},
		{[]int{3, 5}, numbersFrom(1, 21), 20, false},
		// MaxNumber and one beyond, and the integers at the ends.
		{[]int{3, 5}, []int{200}, most, true},
		{[]int{3, 5}, []int{200}, most + 1, false},
		{[]int{3, 5}, []int{-200}, -most, false},
		{[]int{3, 5}, []int{-200}, -most - 1, false},
		{[]int{3, 5}, []int{0}, math.MinInt, false},
		{[]int{3, 5}, []int{200}, math.MinInt, false},
		{[]int{3, 5}, []int{0}, math.MaxInt, false},
		{[]int{3, 5}, []int{-200}, math.MaxInt, false},
		// The semigroup without gaps, and a conductor of 200.
		{[]int{1}, []int{4, 9}, 4, true},
		{[]int{1}, []int{4, 9}, 3, false},
		{[]int{1}, []int{9, 4}, most, true},
		{[]int{5, 51}, []int{-200}, -1, false},
		{[]int{5, 51}, []int{-200}, 0, true},
		{[]int{5, 51}, []int{200}, 399, false},
		{[]int{5, 51}, []int{200}, 400, true},
		// No semigroup.
		{nil, []int{0}, 0, false},
		{[]int{2}, []int{0}, 0, false},
		{[]int{5, 3}, []int{0}, 0, false},
		{[]int{3, 5, 8}, []int{0}, 0, false},
	}
	for _, c := range cases {
		if byText := inIdealByText(c.gens, c.list, c.x); byText != c.want {
			t.Errorf("the test itself is wrong: %d, %d, %d", c.gens, c.list, c.x)
		}
		if got := impl.InIdeal(impl.Semigroup{Gens: c.gens}, c.list, c.x); got != c.want {
			t.Errorf("InIdeal(%d, %d, %d) = %v", c.gens, c.list, c.x, got)
		}
	}
}

func TestInIdealOfSomeSemigroups(t *testing.T) {
	for i, gens := range someSemigroups() {
		s := impl.Semigroup{Gens: gens}
		for j, list := range validLists() {
			if (i+j)%3 > 0 {
				continue
			}
			for x, want := range idealNumbers(gens, list, -210, 630) {
				if got := impl.InIdeal(s, list, x-210); got != want {
					t.Fatalf("InIdeal(%d, %d, %d) = %v", gens, list, x-210, got)
				}
			}
			for _, x := range numbersAtLimits() {
				if got, want := impl.InIdeal(s, list, x), inIdealByText(gens, list, x); got != want {
					t.Fatalf("InIdeal(%d, %d, %d) = %v", gens, list, x, got)
				}
			}
		}
		for _, list := range notValidLists() {
			for _, x := range append(numbersAtLimits(), list...) {
				if impl.InIdeal(s, list, x) {
					t.Fatalf("InIdeal(%d, %d, %d) is true", gens, list, x)
				}
			}
		}
	}
}

func TestIdealGens(t *testing.T) {
	cases := []struct{ gens, list, want []int }{
		// Numbers that are not needed.
		{[]int{3, 5}, []int{2, 7, 5}, []int{2}},
		{[]int{3, 5}, []int{0, 3}, []int{0}},
		{[]int{3, 5}, []int{8, 0, 3, 5}, []int{0}},
		{[]int{3, 5}, numbersFrom(0, 19), []int{0, 1, 2}},
		{[]int{3, 5}, []int{-4, 0, -1, 4}, []int{-4, 0}},
		{[]int{6, 9, 20}, []int{0, 43, 44}, []int{0, 43}},
		{[]int{5, 51}, []int{-200, -1, 0}, []int{-200, -1}},
		// Lists that are needed whole.
		{[]int{3, 5}, []int{0}, []int{0}},
		{[]int{3, 5}, []int{-7}, []int{-7}},
		{[]int{3, 5}, []int{0, 1, 2}, []int{0, 1, 2}},
		{[]int{3, 5}, []int{2, 1, 0}, []int{0, 1, 2}},
		{[]int{3, 5}, []int{7, 0}, []int{0, 7}},
		{[]int{3, 5}, []int{0, 7, 4}, []int{0, 4}},
		{[]int{3, 5}, []int{-200}, []int{-200}},
		{[]int{3, 5}, []int{200}, []int{200}},
		{numbersFrom(12, 23), numbersFrom(-6, 5), numbersFrom(-6, 5)},
		{greatestMultiplicity(), numbersFrom(181, 200), numbersFrom(181, 200)},
		// Several times, and not ascending.
		{[]int{3, 5}, []int{4, 4, 4}, []int{4}},
		{[]int{3, 5}, []int{7, 0, 7, 0}, []int{0, 7}},
		{[]int{3, 5}, slices.Repeat([]int{6}, 20), []int{6}},
		// The semigroup without gaps.
		{[]int{1}, []int{5, 3, 9}, []int{3}},
		{[]int{1}, []int{200, -200}, []int{-200}},
		// Lists that are not valid.
		{[]int{3, 5}, nil, nil},
		{[]int{3, 5}, slices.Repeat([]int{6}, 21), nil},
		{[]int{3, 5}, []int{201}, nil},
		{[]int{3, 5}, []int{0, -201}, nil},
		{[]int{3, 5}, []int{math.MinInt, 0}, nil},
		// No semigroup.
		{nil, []int{0}, nil},
		{[]int{2}, []int{0}, nil},
		{[]int{5, 3}, []int{0}, nil},
		{[]int{3, 5, 8}, []int{0}, nil},
	}
	for _, c := range cases {
		if byText := idealGensByText(c.gens, c.list); !slices.Equal(byText, c.want) {
			t.Errorf("the test itself is wrong: %d, %d: %d", c.gens, c.list, byText)
		}
		if got := impl.IdealGens(impl.Semigroup{Gens: c.gens}, c.list); !slices.Equal(got, c.want) {
			t.Errorf("IdealGens(%d, %d) = %d; want %d", c.gens, c.list, got, c.want)
		}
	}
}

func compareIdealGens(t *testing.T, gens []int, list []int) {
	t.Helper()
	got, want := impl.IdealGens(impl.Semigroup{Gens: gens}, list), idealGensByText(gens, list)
	if !slices.Equal(got, want) {
		t.Fatalf("IdealGens(%d, %d) = %d; want %d", gens, list, got, want)
	}
}

func compareDual(t *testing.T, gens []int, list []int) {
	t.Helper()
	got, want := impl.DualGens(impl.Semigroup{Gens: gens}, list), dualByText(gens, list)
	if !slices.Equal(got, want) {
		t.Fatalf("DualGens(%d, %d) = %d; want %d", gens, list, got, want)
	}
}

func compareIdealSum(t *testing.T, gens []int, a []int, b []int) []int {
	t.Helper()
	got, want := impl.IdealSum(impl.Semigroup{Gens: gens}, a, b), idealSumByText(gens, a, b)
	if !slices.Equal(got, want) {
		t.Fatalf("IdealSum(%d, %d, %d) = %d; want %d", gens, a, b, got, want)
	}
	return got
}

func TestIdealGensOfSomeSemigroups(t *testing.T) {
	for _, gens := range append(someSemigroups(), invalidGens()...) {
		for _, list := range append(validLists(), notValidLists()...) {
			compareIdealGens(t, gens, list)
		}
	}
}

// TestIdealGensAreTheSmallest leaves out each of them: then the ideal is
// another one.
func TestIdealGensAreTheSmallest(t *testing.T) {
	for _, gens := range someSemigroups() {
		for _, list := range validLists() {
			got := impl.IdealGens(impl.Semigroup{Gens: gens}, list)
			want := idealNumbers(gens, list, -210, 630)
			if !slices.Equal(idealNumbers(gens, got, -210, 630), want) {
				t.Fatalf("IdealGens(%d, %d) = %d, which generate another ideal", gens, list, got)
			}
			for i := range got {
				others := slices.Delete(slices.Clone(got), i, i+1)
				if slices.Equal(idealNumbers(gens, others, -210, 630), want) {
					t.Fatalf("IdealGens(%d, %d) = %d, of which %d is not needed", gens, list, got, got[i])
				}
			}
		}
	}
}

// TestIdealsOfShortLists takes the lists in every order, with repetitions.
func TestIdealsOfShortLists(t *testing.T) {
	for _, gens := range [][]int{{1}, {2, 3}, {3, 5}, {3, 5, 7}, {5, 7, 9, 11}} {
		lists := shortLists(numbersFrom(-3, 4), 3)
		for i, list := range lists {
			compareIdealGens(t, gens, list)
			if i%7 == 0 {
				compareDual(t, gens, list)
			}
			compareIdealSum(t, gens, list, lists[i*31%len(lists)])
			compareIdealSum(t, gens, list, lists[i*17%len(lists)])
		}
	}
}

func TestIdealSum(t *testing.T) {
	cases := []struct{ gens, a, b, want []int }{
		{[]int{3, 5}, []int{0, 1}, []int{0, 2}, []int{0, 1, 2}},
		{[]int{3, 5}, []int{0}, []int{4, 0}, []int{0, 4}},
		{[]int{3, 5}, []int{7}, []int{-7}, []int{0}},
		{[]int{3, 5}, []int{0, 7}, []int{0, 7}, []int{0, 7}},
		{[]int{3, 5}, []int{0, 4}, []int{0, 4}, []int{0, 4}},
		{[]int{3, 5}, []int{0, 1}, []int{0, 1}, []int{0, 1, 2}},
		{[]int{1}, []int{4, 2}, []int{-9, 3}, []int{-7}},
		// Sums beyond 200.
		{[]int{3, 5}, []int{200}, []int{200}, []int{400}},
		{[]int{3, 5}, []int{200, 199}, []int{200}, []int{399, 400}},
		{[]int{3, 5}, []int{-200}, []int{-200, -199}, []int{-400, -399}},
		{[]int{3, 5}, []int{200, -200}, []int{200, -200}, []int{-400}},
		{[]int{5, 51}, []int{-200, -1}, []int{1, 200}, []int{-199, 0}},
		// More than 20 numbers.
		{greatestMultiplicity(), numbersFrom(0, 19), []int{0, 20}, numbersFrom(0, 39)},
		{greatestMultiplicity(), numbersFrom(181, 200), []int{180, 200}, numbersFrom(361, 400)},
		{greatestMultiplicity(), numbersFrom(0, 19), upTo(40, 20, 3), numbersFrom(0, 47)},
		{greatestMultiplicity(), []int{0, 54}, []int{0}, []int{0, 54}},
		// Lists that are not valid, as the first and as the second one.
		{[]int{3, 5}, nil, []int{0}, nil},
		{[]int{3, 5}, []int{0}, nil, nil},
		{[]int{3, 5}, nil, nil, nil},
		{[]int{3, 5}, []int{201}, []int{0}, nil},
		{[]int{3, 5}, []int{0}, []int{0, -201}, nil},
		{[]int{3, 5}, numbersFrom(0, 20), []int{0}, nil},
		{[]int{3, 5}, []int{0}, make([]int, 21), nil},
		{[]int{3, 5}, []int{math.MaxInt}, []int{math.MinInt}, nil},
		// No semigroup.
		{nil, []int{0}, []int{0}, nil},
		{[]int{2}, []int{0}, []int{0}, nil},
		{[]int{5, 3}, []int{0}, []int{0}, nil},
		{[]int{3, 5, 8}, []int{0}, []int{0}, nil},
	}
	for _, c := range cases {
		if byText := idealSumByText(c.gens, c.a, c.b); !slices.Equal(byText, c.want) {
			t.Errorf("the test itself is wrong: %d, %d, %d: %d", c.gens, c.a, c.b, byText)
		}
		if got := impl.IdealSum(impl.Semigroup{Gens: c.gens}, c.a, c.b); !slices.Equal(got, c.want) {
			t.Errorf("IdealSum(%d, %d, %d) = %d; want %d", c.gens, c.a, c.b, got, c.want)
		}
		if got := impl.IdealSum(impl.Semigroup{Gens: c.gens}, c.b, c.a); !slices.Equal(got, c.want) {
			t.Errorf("IdealSum(%d, %d, %d) = %d; want %d", c.gens, c.b, c.a, got, c.want)
		}
	}
}

func TestIdealSumOfSomeSemigroups(t *testing.T) {
	long, beyond := 0, 0
	lists := append(validLists(), notValidLists()...)
	for i, gens := range append(someSemigroups(), greatestMultiplicity(), []int{2}, nil) {
		for j, a := range lists {
			sum := compareIdealSum(t, gens, a, lists[(j*5+i)%len(lists)])
			compareIdealSum(t, gens, a, validLists()[(j*7+i)%len(validLists())])
			if len(sum) > 20 {
				long++
			}
			if len(sum) > 0 && (sum[0] < -200 || slices.Max(sum) > 200) {
				beyond++
			}
		}
	}
	if long < 5 || beyond < 50 {
		t.Errorf("the test itself is wrong: only %d long sums, and %d beyond 200", long, beyond)
	}
}

func TestDualGens(t *testing.T) {
	cases := []struct{ gens, list, want []int }{
		// Ideals of one number, and of zero.
		{[]int{3, 5}, []int{0}, []int{0}},
		{[]int{3, 5}, []int{7}, []int{-7}},
		{[]int{3, 5}, []int{-7}, []int{7}},
		{[]int{3, 5}, []int{200}, []int{-200}},
		{[]int{3, 5}, []int{-200}, []int{200}},
		{[]int{5, 51}, []int{-200}, []int{200}},
		{[]int{4, 5, 6, 7}, []int{3}, []int{-3}},
		{[]int{3, 5}, []int{4, 4}, []int{-4}},
		{[]int{3, 5}, []int{4, 7}, []int{-4}},
		// Of more.
		{[]int{3, 5}, []int{0, 1}, []int{5, 9}},
		{[]int{3, 5}, []int{1, 0}, []int{5, 9}},
		{[]int{3, 5}, []int{0, 1, 2}, []int{8, 9, 10}},
		{[]int{3, 5}, []int{0, 7}, []int{3, 5}},
		{[]int{3, 5}, numbersFrom(1, 20), []int{7, 8, 9}},
		{[]int{3, 5}, numbersFrom(-20, -1), []int{28, 29, 30}},
		{[]int{3, 4, 5}, []int{0, 1}, []int{3, 4, 5}},
		{[]int{3, 4, 5}, []int{0, 2}, []int{3, 4, 5}},
		{[]int{2, 3}, []int{0, 1}, []int{2, 3}},
		{[]int{5, 51}, []int{-200, -1}, []int{205, 251}},
		{[]int{5, 51}, numbersFrom(0, 4), numbersFrom(200, 204)},
		{[]int{5, 51}, numbersFrom(-200, -196), numbersFrom(400, 404)},
		{[]int{5, 51}, numbersFrom(196, 200), numbersFrom(4, 8)},
		{numbersFrom(12, 23), []int{0, 1}, numbersFrom(12, 23)},
		// The semigroup without gaps.
		{[]int{1}, []int{0}, []int{0}},
		{[]int{1}, []int{9, -4, 3}, []int{4}},
		{[]int{1}, []int{200}, []int{-200}},
		// Lists that are not valid.
		{[]int{3, 5}, nil, nil},
		{[]int{3, 5}, slices.Repeat([]int{6}, 21), nil},
		{[]int{3, 5}, []int{201}, nil},
		{[]int{3, 5}, []int{0, -201}, nil},
		{[]int{3, 5}, []int{math.MinInt, math.MaxInt}, nil},
		// No semigroup.
		{nil, []int{0}, nil},
		{[]int{2}, []int{0}, nil},
		{[]int{5, 3}, []int{0}, nil},
		{[]int{3, 5, 8}, []int{0}, nil},
	}
	for _, c := range cases {
		if byText := dualByText(c.gens, c.list); !slices.Equal(byText, c.want) {
			t.Errorf("the test itself is wrong: %d, %d: %d", c.gens, c.list, byText)
		}
		if got := impl.DualGens(impl.Semigroup{Gens: c.gens}, c.list); !slices.Equal(got, c.want) {
			t.Errorf("DualGens(%d, %d) = %d; want %d", c.gens, c.list, got, c.want)
		}
	}
}

func TestDualGensOfSomeSemigroups(t *testing.T) {
	for i, gens := range someSemigroups() {
		for j, list := range validLists() {
			if (i+j)%3 == 0 {
				compareDual(t, gens, list)
			}
		}
		for _, list := range notValidLists() {
			compareDual(t, gens, list)
		}
	}
}

// TestDualOfTheDual: it has the ideal in it, its own dual is the dual again,
// and for a symmetric semigroup it is the ideal itself.
func TestDualOfTheDual(t *testing.T) {
	symmetric, others := 0, 0
	for _, gens := range someSemigroups() {
		s := impl.Semigroup{Gens: gens}
		for _, list := range validLists() {
			dual := impl.DualGens(s, list)
			if !isValidByText(dual) {
				continue
			}
			twice := impl.DualGens(s, dual)
			if !isValidByText(twice) {
				continue
			}
			for _, n := range list {
				if !impl.InIdeal(s, twice, n) {
					t.Fatalf("DualGens(%d, %d) = %d, and DualGens of it is %d, without %d", gens, list, dual, twice, n)
				}
			}
			if again := impl.DualGens(s, twice); !slices.Equal(again, dual) {
				t.Fatalf("DualGens(%d, %d) = %d, then %d, then %d", gens, list, dual, twice, again)
			}
			if !impl.IsSymmetric(s) {
				others++
				continue
			}
			symmetric++
			if !slices.Equal(twice, impl.IdealGens(s, list)) {
				t.Fatalf("DualGens(%d, %d) = %d, and DualGens of it is %d", gens, list, dual, twice)
			}
		}
	}
	if symmetric < 100 || others < 100 {
		t.Errorf("the test itself is wrong: only %d and %d lists", symmetric, others)
	}
}

func TestCanonicalGens(t *testing.T) {
	cases := []struct{ gens, want []int }{
		// The semigroup without gaps, and symmetric ones.
		{[]int{1}, []int{0}},
		{[]int{2, 3}, []int{0}},
		{[]int{3, 5}, []int{0}},
		{[]int{4, 6, 9}, []int{0}},
		{[]int{6, 9, 20}, []int{0}},
		{[]int{5, 51}, []int{0}},
		{[]int{5, 6, 7, 8}, []int{0}},
		// Others.
		{[]int{3, 4, 5}, []int{0, 1}},
		{[]int{3, 5, 7}, []int{0, 2}},
		{[]int{3, 7, 8}, []int{0, 1}},
		{[]int{4, 5, 6, 7}, []int{0, 1, 2}},
		{[]int{4, 5, 7}, []int{0, 3}},
		{[]int{7, 17, 60}, []int{0, 25}},
		{[]int{13, 31, 56}, []int{0, 99}},
		{[]int{17, 23, 54}, []int{0, 31}},
		{[]int{9, 50, 56}, []int{0, 94}},
		{numbersFrom(12, 23), numbersFrom(0, 10)},
		{greatestMultiplicity(), append(numbersFrom(0, 10), 137)},
		// No semigroup.
		{nil, nil},
		{[]int{0}, nil},
		{[]int{2}, nil},
		{[]int{5, 3}, nil},
		{[]int{3, 5, 8}, nil},
		{[]int{2, 61}, nil},
	}
	for _, c := range cases {
		if byText := canonicalByText(c.gens); !slices.Equal(byText, c.want) {
			t.Errorf("the test itself is wrong: %d: %d", c.gens, byText)
		}
		if got := impl.CanonicalGens(impl.Semigroup{Gens: c.gens}); !slices.Equal(got, c.want) {
			t.Errorf("CanonicalGens(%d) = %d; want %d", c.gens, got, c.want)
		}
	}
}

// compareCanonical also mirrors the semigroup: x is in the ideal exactly if
// F - x is no element.
func compareCanonical(t *testing.T, gens []int) {
	t.Helper()
	s := impl.Semigroup{Gens: gens}
	got, want := impl.CanonicalGens(s), canonicalByText(gens)
	if !slices.Equal(got, want) {
		t.Fatalf("CanonicalGens(%d) = %d; want %d", gens, got, want)
	}
	if !isValidByText(got) {
		return
	}
	f := impl.FrobeniusOf(s)
	for _, x := range append(numbersFrom(-250, 450), -1000000, 1000000, -999800, 999800) {
		if in := impl.InIdeal(s, got, x); in == impl.Contains(s, f-x) {
			t.Fatalf("%d is in the ideal of CanonicalGens(%d) = %d: %v; and so is %d in the semigroup", x, gens, got, in, f-x)
		}
	}
}

func TestCanonicalGensOfSomeSemigroups(t *testing.T) {
	for _, gens := range append(factoredSemigroups(), invalidGens()...) {
		compareCanonical(t, gens)
		s := impl.Semigroup{Gens: gens}
		if got := impl.CanonicalGens(s); isSemigroupByText(gens) && len(got) != impl.TypeOf(s) {
			t.Errorf("CanonicalGens(%d) = %d, but the type is %d", gens, got, impl.TypeOf(s))
		}
	}
}

// TestCanonicalGensOfSubsets takes all lists of different numbers up to 10,
// those of no semigroup included.
func TestCanonicalGensOfSubsets(t *testing.T) {
	for set := range 1 << 10 {
		var list []int
		for g := 1; g <= 10; g++ {
			if set>>(g-1)&1 == 1 {
				list = append(list, g)
			}
		}
		compareCanonical(t, list)
	}
}

// TestCanonicalDual: the numbers that lead every number of the canonical ideal
// into it are those of the semigroup, so that the sum with the dual is within.
func TestCanonicalDual(t *testing.T) {
	for _, gens := range someSemigroups() {
		s := impl.Semigroup{Gens: gens}
		canonical := impl.CanonicalGens(s)
		dual := impl.DualGens(s, canonical)
		for _, x := range dual {
			for _, y := range canonical {
				if !impl.Contains(s, x+y) {
					t.Fatalf("CanonicalGens(%d) = %d and their DualGens %d have the sum %d", gens, canonical, dual, x+y)
				}
			}
		}
		if single := slices.Equal(dual, []int{0}); single != impl.IsSymmetric(s) {
			t.Fatalf("CanonicalGens(%d) = %d, of which DualGens are %d", gens, canonical, dual)
		}
	}
}

func idealCalls() map[string]func(s impl.Semigroup, a []int, b []int) []int {
	return map[string]func(s impl.Semigroup, a []int, b []int) []int{
		"InIdeal":       func(s impl.Semigroup, a []int, b []int) []int { impl.InIdeal(s, a, 5); return nil },
		"IdealGens":     func(s impl.Semigroup, a []int, b []int) []int { return impl.IdealGens(s, a) },
		"IdealSum":      impl.IdealSum,
		"IdealSum of a": func(s impl.Semigroup, a []int, b []int) []int { return impl.IdealSum(s, a, a) },
		"DualGens":      func(s impl.Semigroup, a []int, b []int) []int { return impl.DualGens(s, a) },
		"CanonicalGens": func(s impl.Semigroup, a []int, b []int) []int { return impl.CanonicalGens(s) },
	}
}

func TestIdealsOfNoSemigroup(t *testing.T) {
	for _, gens := range append(invalidGens(), []int{48, 60}, []int{1, 1}) {
		s := impl.Semigroup{Gens: gens}
		for name, call := range idealCalls() {
			for _, list := range append(validLists(), nil, []int{201}) {
				if got := call(s, list, []int{0}); len(got) > 0 {
					t.Errorf("%s of %d, which is no semigroup, and %d gives %d", name, gens, list, got)
				}
			}
		}
		for _, x := range append(numbersAtLimits(), gens...) {
			if impl.InIdeal(s, []int{0}, x) {
				t.Errorf("InIdeal(%d, 0, %d), of no semigroup, is true", gens, x)
			}
		}
	}
}

func TestIdealCallsLeaveTheirArguments(t *testing.T) {
	lists := append(validLists(), nil, []int{201}, []int{3, -201, 1}, numbersFrom(0, 20))
	for name, call := range idealCalls() {
		for _, gens := range append(validGens(), invalidGens()...) {
			for i, a := range lists {
				b := lists[(i*7+3)%len(lists)]
				g, x, y := guard(gens), guard(a), guard(b)
				call(impl.Semigroup{Gens: g.list}, x.list, y.list)
				g.check(t, name, gens)
				x.check(t, name, a)
				y.check(t, name, b)
			}
		}
	}
}

func TestIdealResultsAreNewMemory(t *testing.T) {
	lists := append(validLists(), nil, []int{201})
	for name, call := range idealCalls() {
		for _, gens := range validGens() {
			for i, a := range lists {
				b := lists[(i*7+3)%len(lists)]
				x, y := guard(a), guard(b)
				checkNewMemory(t, name, gens, func(s impl.Semigroup) []int { return call(s, x.list, y.list) })
				x.check(t, name+", or a change of its result,", a)
				y.check(t, name+", or a change of its result,", b)
				got := call(impl.Semigroup{Gens: gens}, x.list, y.list)
				want := slices.Clone(got)
				scribble(x.whole)
				scribble(y.whole)
				if !slices.Equal(got, want) {
					t.Errorf("%s of %d, %d and %d gives %d after its lists were changed; want %d", name, gens, a, b, got, want)
				}
			}
		}
	}
}
