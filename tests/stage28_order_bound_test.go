package tests

import (
	"math"
	"runtime"
	"slices"
	"sync"
	"testing"

	"loop.example/g00595/impl"
)

// Promise 28: the bound by pairs is never less than the linear one.

// pairsByText has the pairs of elements for each number from 0 to most.
func pairsByText(gens []int, most int) []int {
	pairs := make([]int, most+1)
	elements := elementsByText(gens, most)
	for _, x := range elements {
		for _, y := range elements {
			if x+y <= most {
				pairs[x+y]++
			}
		}
	}
	return pairs
}

// boundFacts is what chapter 28 says of a semigroup, for each number from 0 on.
type boundFacts struct{ pairs, order, linear []int }

// boundFactsByText looks at all elements up to 1000. Farther on, there are more
// than 600 pairs, and for the elements up to 500 less than that.
func boundFactsByText(gens []int) boundFacts {
	f := boundFacts{make([]int, 1001), make([]int, 501), make([]int, 501)}
	if !isSemigroupByText(gens) {
		return f
	}
	f.pairs = pairsByText(gens, 1000)
	isElement := searchedSums(gens, 1000)
	genus := gapFactsByText(gens).genus
	least := math.MaxInt
	for n := 1000; n >= 0; n-- {
		if isElement[n] {
			least = min(least, f.pairs[n])
		}
		if n <= 500 {
			f.order[n] = least
			f.linear[n] = max(0, n+1-2*genus)
		}
	}
	return f
}

// at returns the number for n, or 0 where none is meant.
func at(list []int, n int) int {
	if n < 0 || n >= len(list) {
		return 0
	}
	return list[n]
}

func (f boundFacts) compare(t *testing.T, gens []int, numbers []int) {
	t.Helper()
	s := impl.Semigroup{Gens: gens}
	for _, n := range numbers {
		if got, want := impl.PairsOf(s, n), at(f.pairs, n); got != want {
			t.Fatalf("PairsOf(%d, %d) = %d; want %d", gens, n, got, want)
		}
		if got, want := impl.OrderBound(s, n), at(f.order, n); got != want {
			t.Fatalf("OrderBound(%d, %d) = %d; want %d", gens, n, got, want)
		}
		if got, want := impl.LinearBound(s, n), at(f.linear, n); got != want {
			t.Fatalf("LinearBound(%d, %d) = %d; want %d", gens, n, got, want)
		}
	}
}

// pairedNumbers are numbers around the limits.
func pairedNumbers() []int {
	return []int{math.MinInt, math.MinInt + 1, -1 << 32, -1001, -1000, -501, -500, -2, -1, 0, 1, 2, 199, 200, 201, 398, 399, 400, 401, 402, 498, 499, 500, 501, 502, 998, 999, 1000, 1001, 1002, 2000, 1 << 32, 1<<32 + 8, math.MaxInt - 1, math.MaxInt}
}

func TestPairsOf(t *testing.T) {
	cases := []struct {
		gens    []int
		n, want int
	}{
		{[]int{3, 5}, 3, 2},
		{[]int{3, 5}, 5, 2},
		{[]int{3, 5}, 8, 4},
		{[]int{3, 5}, 9, 4},
		{[]int{4, 6, 9}, 18, 9},
		// An element with itself as a pair.
		{[]int{3, 5}, 6, 3},
		{[]int{3, 5}, 10, 3},
		{[]int{3, 5}, 12, 5},
		{[]int{3, 4, 5}, 6, 3},
		{[]int{5, 51}, 10, 3},
		{[]int{1}, 2, 3},
		// Gaps.
		{[]int{3, 5}, 1, 0},
		{[]int{3, 5}, 4, 0},
		{[]int{3, 5}, 7, 0},
		{[]int{6, 9, 20}, 43, 0},
		{[]int{5, 51}, 199, 0},
		// The number 0.
		{[]int{3, 5}, 0, 1},
		{[]int{5, 51}, 0, 1},
		{[]int{1}, 0, 1},
		// Elements beyond the conductor and beyond twice the conductor.
		{[]int{3, 5}, 11, 6},
		{[]int{3, 5}, 15, 8},
		{[]int{3, 5}, 16, 9},
		{[]int{3, 5}, 17, 10},
		{[]int{3, 5}, 100, 93},
		{[]int{5, 51}, 400, 201},
		{[]int{5, 51}, 401, 202},
		{[]int{6, 9, 20}, 88, 45},
		// The semigroup without gaps.
		{[]int{1}, 1, 2},
		{[]int{1}, 999, 1000},
		{[]int{1}, 1000, 1001},
		{[]int{1}, 1001, 0},
		// 1000 and 1001, below zero and the extremes.
		{[]int{3, 5}, 999, 992},
		{[]int{3, 5}, 1000, 993},
		{[]int{3, 5}, 1001, 0},
		{[]int{3, 5}, 1002, 0},
		{[]int{3, 5}, -1, 0},
		{[]int{3, 5}, -8, 0},
		{[]int{3, 5}, math.MinInt, 0},
		{[]int{3, 5}, math.MaxInt, 0},
		{[]int{3, 5}, 1 << 32, 0},
		{[]int{3, 5}, 1<<32 + 8, 0},
		// No semigroup.
		{nil, 0, 0},
		{nil, 8, 0},
		{[]int{2}, 8, 0},
		{[]int{5, 3}, 8, 0},
		{[]int{3, 5, 8}, 8, 0},
		{[]int{2, 61}, 0, 0},
	}
	for _, c := range cases {
		if got := impl.PairsOf(impl.Semigroup{Gens: c.gens}, c.n); got != c.want {
			t.Errorf("PairsOf(%d, %d) = %d; want %d", c.gens, c.n, got, c.want)
		}
	}
}

func TestBounds(t *testing.T) {
	cases := []struct {
		gens             []int
		n, order, linear int
	}{
		// Bounds that are not equal.
		{[]int{3, 5}, 8, 3, 1},
		{[]int{3, 5}, 9, 3, 2},
		{[]int{3, 5}, 11, 5, 4},
		{[]int{6, 9, 20}, 44, 6, 1},
		// Equal ones.
		{[]int{3, 5}, 10, 3, 3},
		{[]int{3, 5}, 12, 5, 5},
		{[]int{3, 5}, 13, 6, 6},
		{[]int{3, 5}, 15, 8, 8},
		{[]int{3, 5}, 16, 9, 9},
		{[]int{3, 5}, 20, 13, 13},
		{[]int{3, 5}, 500, 493, 493},
		{[]int{5, 51}, 400, 201, 201},
		// Linear bounds of 0, and such that would be less.
		{[]int{3, 5}, 7, 3, 0},
		{[]int{3, 5}, 6, 3, 0},
		{[]int{3, 5}, 3, 2, 0},
		{[]int{5, 51}, 198, 5, 0},
		{[]int{5, 51}, 199, 5, 0},
		{[]int{5, 51}, 200, 5, 1},
		// The number 0.
		{[]int{3, 5}, 0, 1, 0},
		{[]int{5, 51}, 0, 1, 0},
		{[]int{2, 3}, 0, 1, 0},
		// Gaps: those of the next elements count.
		{[]int{3, 5}, 1, 2, 0},
		{[]int{3, 5}, 4, 2, 0},
		{[]int{2, 3}, 1, 2, 0},
		{[]int{3, 4, 5}, 1, 2, 0},
		{[]int{3, 4, 5}, 2, 2, 0},
		// The semigroup without gaps.
		{[]int{1}, 0, 1, 1},
		{[]int{1}, 1, 2, 2},
		{[]int{1}, 2, 3, 3},
		{[]int{1}, 499, 500, 500},
		{[]int{1}, 500, 501, 501},
		{[]int{1}, 501, 0, 0},
		// 500 and 501, below zero and the extremes.
		{[]int{3, 5}, 499, 492, 492},
		{[]int{3, 5}, 501, 0, 0},
		{[]int{3, 5}, 502, 0, 0},
		{[]int{3, 5}, 1000, 0, 0},
		{[]int{3, 5}, -1, 0, 0},
		{[]int{1}, -1, 0, 0},
		{[]int{3, 5}, math.MinInt, 0, 0},
		{[]int{3, 5}, math.MaxInt, 0, 0},
		{[]int{1}, math.MaxInt, 0, 0},
		{[]int{3, 5}, 1 << 32, 0, 0},
		{[]int{3, 5}, 1<<32 + 8, 0, 0},
		// No semigroup.
		{nil, 0, 0, 0},
		{nil, 20, 0, 0},
		{[]int{2}, 20, 0, 0},
		{[]int{5, 3}, 20, 0, 0},
		{[]int{3, 5, 8}, 20, 0, 0},
		{[]int{2, 61}, 500, 0, 0},
	}
	for _, c := range cases {
		if f := boundFactsByText(c.gens); at(f.order, c.n) != c.order || at(f.linear, c.n) != c.linear {
			t.Errorf("the test itself is wrong: %d, %d: %d, %d", c.gens, c.n, at(f.order, c.n), at(f.linear, c.n))
		}
		s := impl.Semigroup{Gens: c.gens}
		if order, linear := impl.OrderBound(s, c.n), impl.LinearBound(s, c.n); order != c.order || linear != c.linear {
			t.Errorf("OrderBound, LinearBound(%d, %d) = %d, %d; want %d, %d", c.gens, c.n, order, linear, c.order, c.linear)
		}
	}
}

func TestPairsOfSomeSemigroups(t *testing.T) {
	for _, gens := range factoredSemigroups() {
		conductor := gapFactsByText(gens).conductor
		numbers := append(pairedNumbers(), conductor-2, conductor-1, conductor, conductor+1, 2*conductor-2, 2*conductor-1, 2*conductor, 2*conductor+1)
		for n := 3; n <= 500; n += 11 {
			numbers = append(numbers, n)
		}
		boundFactsByText(gens).compare(t, gens, numbers)
	}
}

func TestPairsOfSmallSemigroups(t *testing.T) {
	for _, gens := range smallSemigroups(8) {
		boundFactsByText(gens).compare(t, gens, append(pairedNumbers(), numbersFrom(3, 40)...))
	}
}

func TestPairsOfNoSemigroup(t *testing.T) {
	for _, gens := range append(invalidGens(), []int{48, 60}, []int{1, 1}) {
		boundFacts{}.compare(t, gens, append(pairedNumbers(), 3, 5, 8, 60))
	}
	var zero impl.Semigroup
	if impl.PairsOf(zero, 0) != 0 || impl.OrderBound(zero, 0) != 0 || impl.LinearBound(zero, 0) != 0 {
		t.Error("the zero Semigroup has pairs")
	}
}

// TestOrderBoundIsNeverLess states the promise in terms of the functions
// themselves: the bound is the number of pairs of an element that is at least n,
// no such element up to 1000 has fewer pairs, and it is not less than the linear
// one. From twice the conductor on, both are equal.
func TestOrderBoundIsNeverLess(t *testing.T) {
	count := map[string]int{}
	for _, gens := range [][]int{{1}, {2, 3}, {3, 5}, {3, 4, 5}, {4, 6, 9}, {6, 9, 20}, {5, 51}, {10, 11, 12, 13}, {17, 23, 54}, {2, 59}, allFrom(12)} {
		s := impl.Semigroup{Gens: gens}
		pairs := map[int]int{}
		for i := range 1001 {
			if impl.Contains(s, i) {
				pairs[i] = impl.PairsOf(s, i)
			}
		}
		for n := 0; n <= 500; n += 3 {
			order, linear := impl.OrderBound(s, n), impl.LinearBound(s, n)
			reached := false
			for i, count := range pairs {
				reached = reached || i >= n && count == order
				if i >= n && count < order {
					t.Fatalf("OrderBound(%d, %d) = %d, but PairsOf(%d) = %d", gens, n, order, i, count)
				}
			}
			if !reached || order < linear || n >= 2*impl.ConductorOf(s) && order != linear {
				t.Fatalf("OrderBound, LinearBound(%d, %d) = %d, %d", gens, n, order, linear)
			}
			switch {
			case order == linear:
				count["equal"]++
			case linear > 0:
				count["greater"]++
			default:
				count["none"]++
			}
		}
	}
	if count["equal"] < 500 || count["greater"] < 50 || count["none"] < 50 {
		t.Errorf("the test itself is wrong: %v", count)
	}
}

func TestBoundsLeaveNoGoroutine(t *testing.T) {
	before := runtime.NumGoroutine()
	for range 20 {
		for _, gens := range [][]int{{1}, {3, 5}, {5, 51}, allFrom(10), {2}, nil} {
			for _, n := range []int{-1, 0, 8, 500, 501} {
				impl.OrderBound(impl.Semigroup{Gens: gens}, n)
				impl.PairsOf(impl.Semigroup{Gens: gens}, n)
			}
		}
	}
	checkNoGoroutineGoesOn(t, before, "OrderBound")
}

// TestBoundsAtTheSameTime calls with one list of Gens from several goroutines.
func TestBoundsAtTheSameTime(t *testing.T) {
	s := impl.Semigroup{Gens: []int{6, 9, 20}}
	want := boundFactsByText(s.Gens)
	var callers sync.WaitGroup
	for range 8 {
		callers.Go(func() {
			for n := 0; n <= 100; n++ {
				if got := impl.OrderBound(s, n); got != want.order[n] {
					t.Errorf("OrderBound(%d, %d) = %d; want %d", s.Gens, n, got, want.order[n])
				}
			}
		})
	}
	callers.Wait()
}

func TestBoundCallsLeaveGens(t *testing.T) {
	calls := map[string]func(s impl.Semigroup) int{
		"PairsOf":                func(s impl.Semigroup) int { return impl.PairsOf(s, 12) },
		"PairsOf beyond":         func(s impl.Semigroup) int { return impl.PairsOf(s, 1001) },
		"OrderBound":             func(s impl.Semigroup) int { return impl.OrderBound(s, 12) },
		"OrderBound of 0":        func(s impl.Semigroup) int { return impl.OrderBound(s, 0) },
		"OrderBound beyond":      func(s impl.Semigroup) int { return impl.OrderBound(s, 501) },
		"LinearBound":            func(s impl.Semigroup) int { return impl.LinearBound(s, 12) },
		"LinearBound below zero": func(s impl.Semigroup) int { return impl.LinearBound(s, -1) },
	}
	checkCallsLeaveGens(t, calls, slices.Concat(factoredSemigroups(), smallSemigroups(6), invalidGens()))
}
