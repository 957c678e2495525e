package tests

import (
	"math"
	"slices"
	"strconv"
	"testing"

	"loop.example/g00595/impl"
)

// Promise 11: all factorizations are found, each once.

// factorizationsByText tries how often each of gens is taken, and sorts what it
// has found.
func factorizationsByText(gens []int, n int) [][]int {
	if !isSemigroupByText(gens) || n < 0 || n > 100 {
		return nil
	}
	var found [][]int
	var try func(head []int, left int)
	try = func(head []int, left int) {
		if len(head) == len(gens) {
			if left == 0 {
				found = append(found, head)
			}
			return
		}
		for count := 0; count*gens[len(head)] <= left; count++ {
			try(append(slices.Clone(head), count), left-count*gens[len(head)])
		}
	}
	try(nil, n)
	slices.SortFunc(found, func(a, b []int) int { return slices.Compare(b, a) })
	return found
}

// countsByText counts the factorizations of the numbers from 0 to most, by the
// number of times that the last generator is taken.
func countsByText(gens []int, most int) []int {
	counts := make([]int, most+1)
	if len(gens) == 0 {
		counts[0] = 1
		return counts
	}
	last := gens[len(gens)-1]
	others := countsByText(gens[:len(gens)-1], most)
	for n := range counts {
		for taken := 0; taken*last <= n; taken++ {
			counts[n] += others[n-taken*last]
		}
	}
	return counts
}

// valueByText is -1 where there is no value.
func valueByText(gens []int, list []int) int {
	if !isSemigroupByText(gens) || len(list) != len(gens) {
		return -1
	}
	value := 0
	for i, g := range gens {
		if list[i] < 0 || list[i] > 1000000 {
			return -1
		}
		value += list[i] * g
	}
	return value
}

func factorTextByText(gens []int, list []int) string {
	if valueByText(gens, list) < 0 {
		return ""
	}
	text := ""
	for i, g := range gens {
		if list[i] == 0 {
			continue
		}
		if text != "" {
			text += "+"
		}
		text += strconv.Itoa(list[i]) + "*" + strconv.Itoa(g)
	}
	if text == "" {
		return "0"
	}
	return text
}

func equalLists(a [][]int, b [][]int) bool {
	return slices.EqualFunc(a, b, func(x, y []int) bool { return slices.Equal(x, y) })
}

// manyFactorizations are semigroups with many factorizations of a number.
func manyFactorizations() [][]int {
	return [][]int{{4, 5, 6, 7}, numbersFrom(5, 9), numbersFrom(6, 11), numbersFrom(8, 15), numbersFrom(12, 23)}
}

func factoredSemigroups() [][]int { return append(someSemigroups(), manyFactorizations()...) }

// compareFactorizations looks at Factorizations and, for its results, at the
// other functions of chapter 11; at those of one factorization only now and
// then where there are many.
func compareFactorizations(t *testing.T, gens []int, n int) {
	t.Helper()
	s := impl.Semigroup{Gens: gens}
	got, want := impl.Factorizations(s, n), factorizationsByText(gens, n)
	if !equalLists(got, want) {
		t.Fatalf("Factorizations(%d, %d) = %d; want %d", gens, n, got, want)
	}
	if !isSemigroupByText(gens) || n < 0 || n > 100 {
		return
	}
	if count := impl.CountFactorizations(s, n); count != len(got) {
		t.Fatalf("CountFactorizations(%d, %d) = %d, but there are %d", gens, n, count, len(got))
	}
	if impl.Contains(s, n) != (len(got) > 0) {
		t.Fatalf("%d has %d factorizations in %d", n, len(got), gens)
	}
	seen := map[string]bool{}
	for i, list := range got {
		if len(got) > 20 && (i+n)%11 > 0 {
			continue
		}
		text := impl.FactorText(s, list)
		if seen[text] || text != factorTextByText(gens, list) {
			t.Fatalf("%d has in %d the factorization %d with the text %q, which is wrong or there twice", n, gens, list, text)
		}
		seen[text] = true
		if impl.ValueOf(s, list) != n || !impl.IsFactorization(s, n, list) || impl.IsFactorization(s, n+1, list) || impl.IsFactorization(s, n-1, list) {
			t.Fatalf("%d is in %d a factorization of %d by Factorizations, but not by IsFactorization and ValueOf", list, gens, n)
		}
	}
}

func TestMaxFactored(t *testing.T) {
	if impl.MaxFactored != 100 {
		t.Errorf("MaxFactored = %d", impl.MaxFactored)
	}
}

func TestFactorizations(t *testing.T) {
	cases := []struct {
		gens []int
		n    int
		want [][]int
	}{
		// The number 0, elements with one factorization, and gaps.
		{[]int{3, 5}, 0, [][]int{{0, 0}}},
		{[]int{3, 5}, 3, [][]int{{1, 0}}},
		{[]int{3, 5}, 5, [][]int{{0, 1}}},
		{[]int{3, 5}, 8, [][]int{{1, 1}}},
		{[]int{3, 5}, 14, [][]int{{3, 1}}},
		{[]int{3, 5}, 1, nil},
		{[]int{3, 5}, 4, nil},
		{[]int{3, 5}, 7, nil},
		{[]int{6, 9, 20}, 0, [][]int{{0, 0, 0}}},
		{[]int{6, 9, 20}, 43, nil},
		{[]int{6, 9, 20}, 44, [][]int{{4, 0, 1}, {1, 2, 1}}},
		{[]int{5, 51}, 51, [][]int{{0, 1}}},
		{[]int{5, 51}, 99, nil},
		{[]int{5, 51}, 100, [][]int{{20, 0}}},
		{[]int{2, 59}, 59, [][]int{{0, 1}}},
		{[]int{2, 59}, 57, nil},
		// Several, in descending order.
		{[]int{3, 5}, 15, [][]int{{5, 0}, {0, 3}}},
		{[]int{3, 5}, 30, [][]int{{10, 0}, {5, 3}, {0, 6}}},
		{[]int{2, 3}, 12, [][]int{{6, 0}, {3, 2}, {0, 4}}},
		{[]int{4, 6, 9}, 18, [][]int{{3, 1, 0}, {0, 3, 0}, {0, 0, 2}}},
		{[]int{4, 6, 9}, 30, [][]int{{6, 1, 0}, {3, 3, 0}, {3, 0, 2}, {0, 5, 0}, {0, 2, 2}}},
		{[]int{3, 4, 5}, 12, [][]int{{4, 0, 0}, {1, 1, 1}, {0, 3, 0}}},
		{[]int{3, 4, 5}, 13, [][]int{{3, 1, 0}, {1, 0, 2}, {0, 2, 1}}},
		{[]int{4, 5, 6, 7}, 16, [][]int{{4, 0, 0, 0}, {1, 1, 0, 1}, {1, 0, 2, 0}, {0, 2, 1, 0}}},
		// One generator.
		{[]int{1}, 0, [][]int{{0}}},
		{[]int{1}, 1, [][]int{{1}}},
		{[]int{1}, 100, [][]int{{100}}},
		{[]int{1}, 101, nil},
		{[]int{1}, -1, nil},
		// Twelve generators.
		{numbersFrom(12, 23), 0, [][]int{make([]int, 12)}},
		{numbersFrom(12, 23), 11, nil},
		{numbersFrom(12, 23), 12, [][]int{{1, 0, 0, 0, 0, 0, 0, 0, 0, 0, 0, 0}}},
		{numbersFrom(12, 23), 23, [][]int{{0, 0, 0, 0, 0, 0, 0, 0, 0, 0, 0, 1}}},
		{numbersFrom(12, 23), 24, [][]int{{2, 0, 0, 0, 0, 0, 0, 0, 0, 0, 0, 0}}},
		{numbersFrom(12, 23), 27, [][]int{{1, 0, 0, 1, 0, 0, 0, 0, 0, 0, 0, 0}, {0, 1, 1, 0, 0, 0, 0, 0, 0, 0, 0, 0}}},
		// MaxFactored, one more, below zero and the integers at the ends.
		{[]int{7, 17, 60}, 100, [][]int{{7, 3, 0}}},
		{[]int{3, 59}, 100, nil},
		{[]int{20, 27, 33, 45}, 100, [][]int{{5, 0, 0, 0}, {2, 1, 1, 0}}},
		{[]int{6, 10, 15}, 100, [][]int{{15, 1, 0}, {10, 4, 0}, {10, 1, 2}, {5, 7, 0}, {5, 4, 2}, {5, 1, 4}, {0, 10, 0}, {0, 7, 2}, {0, 4, 4}, {0, 1, 6}}},
		{[]int{3, 5}, 101, nil},
		{[]int{3, 5}, 105, nil},
		{[]int{3, 5}, 200, nil},
		{[]int{3, 5}, 1000, nil},
		{[]int{3, 5}, -1, nil},
		{[]int{3, 5}, -3, nil},
		{[]int{3, 5}, -15, nil},
		{[]int{3, 5}, 1<<32 + 15, nil},
		{[]int{3, 5}, math.MinInt, nil},
		{[]int{3, 5}, math.MinInt + 15, nil},
		{[]int{3, 5}, math.MaxInt, nil},
		// No semigroup.
		{nil, 0, nil},
		{[]int{0}, 0, nil},
		{[]int{2}, 2, nil},
		{[]int{5, 3}, 8, nil},
		{[]int{3, 5, 8}, 8, nil},
		{[]int{2, 61}, 61, nil},
	}
	for _, c := range cases {
		if byText := factorizationsByText(c.gens, c.n); !equalLists(byText, c.want) {
			t.Errorf("the test itself is wrong: %d, %d: %d", c.gens, c.n, byText)
		}
		if got := impl.Factorizations(impl.Semigroup{Gens: c.gens}, c.n); !equalLists(got, c.want) {
			t.Errorf("Factorizations(%d, %d) = %d; want %d", c.gens, c.n, got, c.want)
		}
	}
}

// factoredNumbers are numbers around the limits of what is factored.
func factoredNumbers() []int {
	return []int{math.MinInt, math.MinInt + 1, -1 << 32, -1001, -1000, -101, -100, -60, -1, 0, 1, 2, 3, 12, 59, 60, 98, 99, 100, 101, 102, 105, 120, 999, 1000, 1001, 1002, 1005, 1 << 32, 1<<32 + 15, math.MaxInt - 1, math.MaxInt}
}

func TestFactorizationsOfSomeSemigroups(t *testing.T) {
	for _, gens := range factoredSemigroups() {
		for n := range 101 {
			compareFactorizations(t, gens, n)
		}
		for _, n := range factoredNumbers() {
			compareFactorizations(t, gens, n)
		}
	}
}

// TestFactorizationsOfSubsets takes all semigroups with generators up to 9.
func TestFactorizationsOfSubsets(t *testing.T) {
	for set := range 1 << 9 {
		var list []int
		for g := 1; g <= 9; g++ {
			if set>>(g-1)&1 == 1 {
				list = append(list, g)
			}
		}
		for n := -1; n <= 45; n++ {
			compareFactorizations(t, list, n)
		}
	}
}

// TestFactorizationsDescend holds each factorization against the one before it.
func TestFactorizationsDescend(t *testing.T) {
	for _, gens := range factoredSemigroups() {
		found := impl.Factorizations(impl.Semigroup{Gens: gens}, 96)
		for i := 1; i < len(found); i++ {
			if slices.Compare(found[i-1], found[i]) <= 0 {
				t.Fatalf("Factorizations(%d, 96) has %d before %d", gens, found[i-1], found[i])
			}
		}
	}
}

func TestCountFactorizations(t *testing.T) {
	cases := []struct {
		gens    []int
		n, want int
	}{
		{[]int{3, 5}, 0, 1},
		{[]int{3, 5}, 1, 0},
		{[]int{3, 5}, 7, 0},
		{[]int{3, 5}, 8, 1},
		{[]int{3, 5}, 15, 2},
		{[]int{3, 5}, 100, 7},
		{[]int{3, 5}, 101, 7},
		{[]int{3, 5}, 1000, 67},
		{[]int{3, 5}, 1001, -1},
		{[]int{3, 5}, 1005, -1},
		{[]int{3, 5}, -1, -1},
		{[]int{3, 5}, -15, -1},
		{[]int{3, 5}, 1<<32 + 15, -1},
		{[]int{3, 5}, math.MinInt, -1},
		{[]int{3, 5}, math.MaxInt, -1},
		{[]int{2, 3}, 1000, 167},
		{[]int{2, 3}, 999, 167},
		{[]int{2, 59}, 57, 0},
		{[]int{2, 59}, 1000, 9},
		{[]int{6, 9, 20}, 43, 0},
		{[]int{6, 9, 20}, 44, 2},
		{[]int{5, 51}, 199, 0},
		{[]int{5, 51}, 1000, 4},
		{[]int{1}, 0, 1},
		{[]int{1}, 1, 1},
		{[]int{1}, 1000, 1},
		{[]int{1}, 1001, -1},
		{[]int{1}, -1, -1},
		{[]int{6, 7, 8, 9, 10, 11}, 100, 763},
		{[]int{6, 7, 8, 9, 10, 11}, 1000, 28403342},
		// More than 32 bits.
		{numbersFrom(12, 23), 1000, 114354225046},
		{numbersFrom(12, 23), 1001, -1},
		{nil, 0, -1},
		{[]int{2}, 2, -1},
		{[]int{5, 3}, 8, -1},
		{[]int{3, 5, 8}, 8, -1},
	}
	for _, c := range cases {
		if c.want >= 0 && countsByText(c.gens, c.n)[c.n] != c.want {
			t.Errorf("the test itself is wrong: %d, %d: %d", c.gens, c.n, countsByText(c.gens, c.n)[c.n])
		}
		if got := impl.CountFactorizations(impl.Semigroup{Gens: c.gens}, c.n); got != c.want {
			t.Errorf("CountFactorizations(%d, %d) = %d; want %d", c.gens, c.n, got, c.want)
		}
	}
}

// TestCountFactorizationsUpTo1000 takes every number for some semigroups, and
// some numbers for all.
func TestCountFactorizationsUpTo1000(t *testing.T) {
	for i, gens := range factoredSemigroups() {
		s := impl.Semigroup{Gens: gens}
		counts := countsByText(gens, 1000)
		for n, want := range counts {
			if i%5 > 0 && n > 12 && n%83 > 0 {
				continue
			}
			if got := impl.CountFactorizations(s, n); got != want {
				t.Fatalf("CountFactorizations(%d, %d) = %d; want %d", gens, n, got, want)
			}
		}
		for _, n := range factoredNumbers() {
			want := -1
			if n >= 0 && n <= 1000 {
				want = counts[n]
			}
			if got := impl.CountFactorizations(s, n); got != want {
				t.Fatalf("CountFactorizations(%d, %d) = %d; want %d", gens, n, got, want)
			}
		}
	}
}

func TestValueOfAndFactorText(t *testing.T) {
	const most = 1000000
	cases := []struct {
		gens, list []int
		value      int
		text       string
	}{
		// Zeros only, one number that is not 0, and several.
		{[]int{3, 5}, []int{0, 0}, 0, "0"},
		{[]int{1}, []int{0}, 0, "0"},
		{numbersFrom(12, 23), make([]int, 12), 0, "0"},
		{[]int{3, 5}, []int{0, 4}, 20, "4*5"},
		{[]int{3, 5}, []int{4, 0}, 12, "4*3"},
		{[]int{3, 5}, []int{1, 0}, 3, "1*3"},
		{[]int{3, 5}, []int{0, 1}, 5, "1*5"},
		{[]int{3, 5}, []int{2, 1}, 11, "2*3+1*5"},
		{[]int{3, 5}, []int{10, 10}, 80, "10*3+10*5"},
		{[]int{1}, []int{7}, 7, "7*1"},
		{[]int{6, 9, 20}, []int{4, 0, 1}, 44, "4*6+1*20"},
		{[]int{6, 9, 20}, []int{0, 2, 0}, 18, "2*9"},
		{[]int{6, 9, 20}, []int{1, 2, 3}, 84, "1*6+2*9+3*20"},
		{[]int{6, 9, 20}, []int{0, 2, 3}, 78, "2*9+3*20"},
		{numbersFrom(12, 23), []int{0, 1, 0, 0, 0, 0, 0, 0, 0, 0, 0, 100}, 2313, "1*13+100*23"},
		{numbersFrom(45, 56), slices.Repeat([]int{1}, 12), 606, "1*45+1*46+1*47+1*48+1*49+1*50+1*51+1*52+1*53+1*54+1*55+1*56"},
		// MaxNumber and one more, the integers at the ends, and numbers below zero, first and last.
		{[]int{3, 5}, []int{most, 0}, 3 * most, "1000000*3"},
		{[]int{3, 5}, []int{0, most}, 5 * most, "1000000*5"},
		{[]int{3, 5}, []int{most, most}, 8 * most, "1000000*3+1000000*5"},
		{[]int{1}, []int{most}, most, "1000000*1"},
		{greatestMultiplicity(), slices.Repeat([]int{most}, 12), 648 * most, "1000000*48+1000000*49+1000000*50+1000000*51+1000000*52+1000000*53+1000000*55+1000000*56+1000000*57+1000000*58+1000000*59+1000000*60"},
		{[]int{3, 5}, []int{most + 1, 0}, -1, ""},
		{[]int{3, 5}, []int{0, most + 1}, -1, ""},
		{[]int{1}, []int{most + 1}, -1, ""},
		{[]int{3, 5}, []int{-1, 0}, -1, ""},
		{[]int{3, 5}, []int{0, -1}, -1, ""},
		{[]int{3, 5}, []int{2, -1}, -1, ""},
		{[]int{3, 5}, []int{-5, 3}, -1, ""},
		{[]int{3, 5}, []int{5, -3}, -1, ""},
		{[]int{3, 5}, []int{-1, 4}, -1, ""},
		{[]int{3, 5}, []int{math.MinInt, 1}, -1, ""},
		{[]int{3, 5}, []int{1, math.MinInt}, -1, ""},
		{[]int{3, 5}, []int{math.MaxInt, 1}, -1, ""},
		{[]int{3, 5}, []int{1, math.MaxInt}, -1, ""},
		{[]int{3, 5}, []int{1 << 32, 1}, -1, ""},
		{[]int{3, 5}, []int{1, 1<<32 + 1}, -1, ""},
		{[]int{2, 3}, []int{-1 << 62, 1}, -1, ""},
		{[]int{4, 6, 9}, []int{0, 1 << 62, 0}, -1, ""},
		{[]int{4, 6, 9}, []int{1, -1, 1}, -1, ""},
		// Too short and too long.
		{[]int{3, 5}, nil, -1, ""},
		{[]int{3, 5}, []int{}, -1, ""},
		{[]int{3, 5}, []int{1}, -1, ""},
		{[]int{3, 5}, []int{1, 1, 0}, -1, ""},
		{[]int{3, 5}, []int{0, 0, 0}, -1, ""},
		{[]int{3, 5}, make([]int, 100000), -1, ""},
		{[]int{1}, nil, -1, ""},
		{[]int{1}, []int{1, 1}, -1, ""},
		{numbersFrom(12, 23), make([]int, 11), -1, ""},
		{numbersFrom(12, 23), make([]int, 13), -1, ""},
		// No semigroup.
		{nil, nil, -1, ""},
		{nil, []int{0}, -1, ""},
		{[]int{0}, []int{1}, -1, ""},
		{[]int{2}, []int{1}, -1, ""},
		{[]int{5, 3}, []int{1, 1}, -1, ""},
		{[]int{3, 5, 8}, []int{1, 1, 1}, -1, ""},
		{[]int{2, 61}, []int{1, 1}, -1, ""},
		{numbersFrom(13, 25), make([]int, 13), -1, ""},
	}
	for _, c := range cases {
		if valueByText(c.gens, c.list) != c.value || factorTextByText(c.gens, c.list) != c.text {
			t.Errorf("the test itself is wrong: %d, %d: %d, %q", c.gens, c.list, valueByText(c.gens, c.list), factorTextByText(c.gens, c.list))
		}
		s := impl.Semigroup{Gens: c.gens}
		if got := impl.ValueOf(s, c.list); got != c.value {
			t.Errorf("ValueOf(%d, %d) = %d; want %d", c.gens, c.list, got, c.value)
		}
		if got := impl.FactorText(s, c.list); got != c.text {
			t.Errorf("FactorText(%d, %d) = %q; want %q", c.gens, c.list, got, c.text)
		}
		for _, n := range []int{c.value - 1, c.value, c.value + 1, -1, 0, math.MinInt, math.MaxInt} {
			if got, want := impl.IsFactorization(s, n, c.list), n == c.value && n >= 0; got != want {
				t.Errorf("IsFactorization(%d, %d, %d) = %v; want %v", c.gens, n, c.list, got, want)
			}
		}
	}
}

// TestIsFactorization also has values that other lists have, and values that
// wrap around to the number.
func TestIsFactorization(t *testing.T) {
	cases := []struct {
		gens []int
		n    int
		list []int
		want bool
	}{
		{[]int{3, 5}, 8, []int{1, 1}, true},
		{[]int{3, 5}, 15, []int{5, 0}, true},
		{[]int{3, 5}, 15, []int{0, 3}, true},
		{[]int{3, 5}, 15, []int{3, 0}, false},
		{[]int{3, 5}, 15, []int{0, 5}, false},
		{[]int{3, 5}, 15, []int{3, 1}, false},
		{[]int{3, 5}, 14, []int{3, 1}, true},
		{[]int{3, 5}, 13, []int{3, 1}, false},
		{[]int{3, 5}, 0, []int{0, 0}, true},
		{[]int{3, 5}, 0, nil, false},
		{[]int{3, 5}, -1, nil, false},
		{[]int{3, 5}, -1, []int{0, 0}, false},
		{[]int{3, 5}, -3, []int{-1, 0}, false},
		{[]int{3, 5}, -8, []int{-1, -1}, false},
		{[]int{3, 5}, 0, []int{5, -3}, false},
		{[]int{3, 5}, 7, []int{4, -1}, false},
		{[]int{3, 5}, 7, []int{-1, 2}, false},
		{[]int{3, 5}, 8, []int{1}, false},
		{[]int{3, 5}, 3, []int{1}, false},
		{[]int{3, 5}, 8, []int{1, 1, 0}, false},
		{[]int{3, 5}, 8, []int{1, 1, 1}, false},
		// Far beyond MaxFactored.
		{[]int{3, 5}, 101, []int{32, 1}, true},
		{[]int{3, 5}, 8000000, []int{1000000, 1000000}, true},
		{[]int{3, 5}, 8000001, []int{1000000, 1000000}, false},
		{[]int{3, 5}, 3000003, []int{1000001, 0}, false},
		{[]int{3, 5}, 5000005, []int{0, 1000001}, false},
		{[]int{1}, 1000000, []int{1000000}, true},
		{[]int{1}, 1000001, []int{1000001}, false},
		{[]int{1}, math.MaxInt, []int{math.MaxInt}, false},
		{[]int{1}, math.MinInt, []int{math.MinInt}, false},
		{[]int{2, 3}, 0, []int{math.MinInt, 0}, false},
		{[]int{2, 3}, -2, []int{math.MaxInt, 0}, false},
		{[]int{2, 3}, 3, []int{math.MinInt, 1}, false},
		{[]int{4, 6, 9}, 9, []int{1 << 62, 0, 1}, false},
		{[]int{5, 3}, 8, []int{1, 1}, false},
		{[]int{2}, 2, []int{1}, false},
		{nil, 0, nil, false},
		{nil, -1, nil, false},
	}
	for _, c := range cases {
		if got := impl.IsFactorization(impl.Semigroup{Gens: c.gens}, c.n, c.list); got != c.want {
			t.Errorf("IsFactorization(%d, %d, %d) = %v; want %v", c.gens, c.n, c.list, got, c.want)
		}
	}
}

// countsAtLimits are numbers around the limits of those of a factorization.
func countsAtLimits() []int {
	return []int{math.MinInt, math.MinInt + 1, -1 << 32, -1000000, -2, -1, 0, 1, 2, 3, 17, 999999, 1000000, 1000001, 1 << 32, 1<<32 + 1, 1 << 62, math.MaxInt - 1, math.MaxInt}
}

// TestFactorCallsAtLimits takes lists of every length with each number at the
// limits first, last and between.
func TestFactorCallsAtLimits(t *testing.T) {
	for _, gens := range append(factoredSemigroups(), []int{2}, []int{5, 3}, []int{3, 5, 8}, nil) {
		s := impl.Semigroup{Gens: gens}
		var lists [][]int
		for _, length := range []int{0, 1, 2, 3, 4, len(gens) - 1, len(gens), len(gens) + 1} {
			for _, x := range countsAtLimits() {
				if length <= 0 {
					lists = append(lists, nil)
					break
				}
				lists = append(lists, withNumber(length, 0, x), withNumber(length, length-1, x), withNumber(length, length/2, x))
			}
		}
		for _, list := range lists {
			value := valueByText(gens, list)
			if got := impl.ValueOf(s, list); got != value {
				t.Fatalf("ValueOf(%d, %d) = %d; want %d", gens, list, got, value)
			}
			if got, want := impl.FactorText(s, list), factorTextByText(gens, list); got != want {
				t.Fatalf("FactorText(%d, %d) = %q; want %q", gens, list, got, want)
			}
			for _, n := range []int{value - 1, value, value + 1, -1, 0, 100, math.MinInt, math.MaxInt} {
				if got, want := impl.IsFactorization(s, n, list), n >= 0 && n == value; got != want {
					t.Fatalf("IsFactorization(%d, %d, %d) = %v; want %v", gens, n, list, got, want)
				}
			}
		}
	}
}

// TestIsFactorizationOfShortLists takes all lists of small numbers.
func TestIsFactorizationOfShortLists(t *testing.T) {
	for _, gens := range [][]int{{1}, {2, 3}, {3, 5}, {4, 6, 9}, {3, 4, 5}} {
		s := impl.Semigroup{Gens: gens}
		for _, list := range shortLists(numbersFrom(-1, 4), 4) {
			value := valueByText(gens, list)
			for n := -2; n <= 60; n += 1 + n/20 {
				want := n >= 0 && n == value
				if got := impl.IsFactorization(s, n, list); got != want {
					t.Fatalf("IsFactorization(%d, %d, %d) = %v; want %v", gens, n, list, got, want)
				}
				found := slices.ContainsFunc(impl.Factorizations(s, n), func(f []int) bool { return slices.Equal(f, list) })
				if found != want {
					t.Fatalf("%d is among Factorizations(%d, %d): %v; want %v", list, gens, n, found, want)
				}
			}
		}
	}
}

func TestFactorizationsOfNoSemigroup(t *testing.T) {
	for _, gens := range append(invalidGens(), []int{48, 60}, []int{1, 1}) {
		s := impl.Semigroup{Gens: gens}
		for _, n := range factoredNumbers() {
			if got := impl.Factorizations(s, n); len(got) > 0 {
				t.Errorf("Factorizations(%d, %d), of no semigroup, = %d", gens, n, got)
			}
			if got := impl.CountFactorizations(s, n); got != -1 {
				t.Errorf("CountFactorizations(%d, %d), of no semigroup, = %d", gens, n, got)
			}
		}
		for _, list := range [][]int{nil, {0}, {1, 1}, make([]int, len(gens)), slices.Repeat([]int{1}, len(gens))} {
			value := impl.ValueOf(s, list)
			if value != -1 || impl.FactorText(s, list) != "" || impl.IsFactorization(s, 0, list) || impl.IsFactorization(s, -1, list) || impl.IsFactorization(s, 8, list) {
				t.Errorf("%d, of %d, which is no semigroup, has the value %d and the text %q, or is a factorization", list, gens, value, impl.FactorText(s, list))
			}
		}
	}
}

func TestFactorCallsLeaveTheirArguments(t *testing.T) {
	calls := map[string]func(s impl.Semigroup, list []int){
		"Factorizations":      func(s impl.Semigroup, list []int) { impl.Factorizations(s, 60); impl.Factorizations(s, 101) },
		"CountFactorizations": func(s impl.Semigroup, list []int) { impl.CountFactorizations(s, 1000) },
		"IsFactorization":     func(s impl.Semigroup, list []int) { impl.IsFactorization(s, 8, list) },
		"ValueOf":             func(s impl.Semigroup, list []int) { impl.ValueOf(s, list) },
		"FactorText":          func(s impl.Semigroup, list []int) { impl.FactorText(s, list) },
	}
	for name, call := range calls {
		for _, gens := range append(someSemigroups(), invalidGens()...) {
			lists := [][]int{nil, {1}, {1, 1}, {0, 0}, {-1, 2}, make([]int, len(gens)), slices.Repeat([]int{2}, len(gens)), slices.Repeat([]int{1000001}, len(gens))}
			for _, list := range lists {
				g, l := guard(gens), guard(list)
				call(impl.Semigroup{Gens: g.list}, l.list)
				g.check(t, name, gens)
				l.check(t, name, list)
			}
		}
	}
}

func copyOfLists(lists [][]int) [][]int {
	var copied [][]int
	for _, list := range lists {
		copied = append(copied, slices.Clone(list))
	}
	return copied
}

// TestFactorizationsAreNewMemory changes the factorizations one after another,
// with their unused capacity, and looks at those that follow, at other results
// and at Gens.
func TestFactorizationsAreNewMemory(t *testing.T) {
	for _, gens := range factoredSemigroups() {
		for _, n := range []int{0, gens[0], 60, 97, 100} {
			g := guard(gens)
			s := impl.Semigroup{Gens: g.list}
			first := impl.Factorizations(s, n)
			want := copyOfLists(first)
			second := impl.Factorizations(s, n)
			for i, list := range first {
				scribble(list)
				if !equalLists(first[i+1:], want[i+1:]) {
					t.Fatalf("a change of one of Factorizations(%d, %d) changes another one", gens, n)
				}
			}
			g.check(t, "Factorizations, or a change of its result,", gens)
			scribbled := first[:cap(first)]
			for i := range scribbled {
				scribbled[i] = nil
			}
			third := impl.Factorizations(s, n)
			scribble(g.whole)
			if !equalLists(second, want) || !equalLists(third, want) {
				t.Fatalf("Factorizations(%d, %d) = %d and %d after others were changed; want %d", gens, n, second, third, want)
			}
		}
	}
}
