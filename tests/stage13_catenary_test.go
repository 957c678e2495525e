package tests

import (
	"math"
	"slices"
	"testing"

	"loop.example/g00595/impl"
)

// Promise 13: every two factorizations are connected by steps that are no longer
// than the degree.

func areCountsByText(list []int) bool {
	return !slices.ContainsFunc(list, func(n int) bool { return n < 0 || n > 1000000 })
}

// distanceByText takes off, one after another, what both lists have.
func distanceByText(a []int, b []int) int {
	if len(a) != len(b) || !areCountsByText(a) || !areCountsByText(b) {
		return -1
	}
	sumA, sumB := 0, 0
	for i := range a {
		lesser := a[i]
		if b[i] < lesser {
			lesser = b[i]
		}
		sumA += a[i] - lesser
		sumB += b[i] - lesser
	}
	if sumA < sumB {
		return sumB
	}
	return sumA
}

// steps are the factorizations of a number with all distances between them.
type steps struct {
	found     [][]int
	distances [][]int
}

func stepsByText(gens []int, n int) steps {
	found := factorizationsByText(gens, n)
	distances := make([][]int, len(found))
	for i := range distances {
		distances[i] = make([]int, len(found))
	}
	for i := range found {
		for j := range i {
			distances[i][j] = distanceByText(found[i], found[j])
			distances[j][i] = distances[i][j]
		}
	}
	return steps{found, distances}
}

// far tells for each factorization how many steps of at most d lead from one of
// them to it; -1 where none do.
func (s steps) far(from int, d int) []int {
	count := slices.Repeat([]int{-1}, len(s.found))
	count[from] = 0
	for now, more := 0, true; more; now++ {
		more = false
		for i := range s.found {
			if count[i] != now {
				continue
			}
			for j, distance := range s.distances[i] {
				if count[j] < 0 && distance <= d {
					count[j] = now + 1
					more = true
				}
			}
		}
	}
	return count
}

// degree is the first number from 0 on that connects all.
func (s steps) degree() int {
	for d := 0; ; d++ {
		if len(s.found) < 2 || !slices.Contains(s.far(0, d), -1) {
			return d
		}
	}
}

// chain goes, at each place, to the first factorization from which the rest of
// the way is as short as it can be.
func (s steps) chain(from int, to int) [][]int {
	d := s.degree()
	left := s.far(to, d)
	chain := [][]int{s.found[from]}
	for at := from; at != to; {
		for next, distance := range s.distances[at] {
			if distance <= d && left[next] == left[at]-1 {
				at = next
				break
			}
		}
		chain = append(chain, s.found[at])
	}
	return chain
}

func (s steps) indexOf(list []int) int {
	return slices.IndexFunc(s.found, func(f []int) bool { return slices.Equal(f, list) })
}

func catenaryByText(gens []int, n int) int {
	if !isSemigroupByText(gens) || n < 0 || n > 100 {
		return -1
	}
	return stepsByText(gens, n).degree()
}

func chainByText(gens []int, n int, a []int, b []int) ([][]int, bool) {
	s := stepsByText(gens, n)
	from, to := s.indexOf(a), s.indexOf(b)
	if from < 0 || to < 0 {
		return nil, false
	}
	return s.chain(from, to), true
}

func TestDistanceOf(t *testing.T) {
	const most = 1000000
	cases := []struct {
		a, b []int
		want int
	}{
		// Empty lists and equal ones.
		{nil, nil, 0},
		{[]int{}, nil, 0},
		{[]int{0}, []int{0}, 0},
		{[]int{7}, []int{7}, 0},
		{[]int{3, 1, 4}, []int{3, 1, 4}, 0},
		{[]int{most, most}, []int{most, most}, 0},
		// What is left of one of them, or of both.
		{[]int{5, 0}, []int{0, 3}, 5},
		{[]int{2, 1}, []int{1, 1}, 1},
		{[]int{2, 1}, []int{0, 0}, 3},
		{[]int{1}, []int{0}, 1},
		{[]int{4}, []int{9}, 5},
		{[]int{3, 1, 0}, []int{0, 3, 0}, 3},
		{[]int{3, 1, 0}, []int{0, 0, 2}, 4},
		{[]int{1, 2, 3}, []int{3, 2, 1}, 2},
		{[]int{1, 2, 3}, []int{2, 3, 4}, 3},
		{[]int{9, 0, 0, 1}, []int{1, 2, 3, 1}, 8},
		{[]int{5, 0, 5}, []int{0, 9, 0}, 10},
		{[]int{0, 0, 0, 7}, []int{2, 2, 2, 8}, 7},
		// Different lengths.
		{[]int{1}, nil, -1},
		{[]int{0}, nil, -1},
		{[]int{1, 0}, []int{1}, -1},
		{[]int{1, 2, 3}, []int{1, 2}, -1},
		{[]int{1, 2, 3}, []int{1, 2, 3, 0}, -1},
		// Numbers beyond the limits.
		{[]int{-1}, []int{0}, -1},
		{[]int{-1}, []int{-1}, -1},
		{[]int{0, -1}, []int{0, 1}, -1},
		{[]int{-1, 0}, []int{1, 0}, -1},
		{[]int{most}, []int{0}, most},
		{[]int{most, 0}, []int{0, most}, most},
		{[]int{most, most, 0}, []int{0, 0, 1}, 2 * most},
		{[]int{most + 1}, []int{0}, -1},
		{[]int{most + 1}, []int{most + 1}, -1},
		{[]int{0, most + 1}, []int{0, 0}, -1},
		{[]int{math.MinInt}, []int{0}, -1},
		{[]int{math.MinInt}, []int{math.MinInt}, -1},
		{[]int{math.MinInt}, []int{math.MaxInt}, -1},
		{[]int{math.MaxInt}, []int{math.MaxInt}, -1},
		{[]int{3, math.MaxInt}, []int{3, 0}, -1},
	}
	for _, c := range cases {
		if byText := distanceByText(c.a, c.b); byText != c.want {
			t.Errorf("the test itself is wrong: %d, %d: %d", c.a, c.b, byText)
		}
		if got := impl.DistanceOf(c.a, c.b); got != c.want {
			t.Errorf("DistanceOf(%d, %d) = %d; want %d", c.a, c.b, got, c.want)
		}
		if got := impl.DistanceOf(c.b, c.a); got != c.want {
			t.Errorf("DistanceOf(%d, %d) = %d; want %d", c.b, c.a, got, c.want)
		}
	}
}

func compareDistance(t *testing.T, a []int, b []int) {
	t.Helper()
	if got, want := impl.DistanceOf(a, b), distanceByText(a, b); got != want {
		t.Fatalf("DistanceOf(%d, %d) = %d; want %d", a, b, got, want)
	}
}

// TestDistanceAtLimits puts each number at the limits first, last and between,
// in either list and in both.
func TestDistanceAtLimits(t *testing.T) {
	for _, length := range []int{1, 2, 3, 5, 12, 40} {
		plain := slices.Repeat([]int{3}, length)
		for _, x := range countsAtLimits() {
			for _, place := range []int{0, length / 2, length - 1} {
				list := withNumber(length, place, x)
				compareDistance(t, list, plain)
				compareDistance(t, plain, list)
				compareDistance(t, list, list)
				compareDistance(t, list, list[:length-1])
				for _, y := range countsAtLimits() {
					compareDistance(t, list, withNumber(length, 0, y))
					compareDistance(t, list, withNumber(length, length-1, y))
				}
			}
		}
	}
}

func TestDistanceOfShortLists(t *testing.T) {
	lists := shortLists(numbersFrom(-1, 4), 3)
	for _, a := range lists {
		for _, b := range lists {
			compareDistance(t, a, b)
		}
	}
}

// TestDistanceIsOne: no way is shorter than the distance.
func TestDistanceIsOne(t *testing.T) {
	lists := slices.DeleteFunc(shortLists(numbersFrom(0, 3), 3), func(list []int) bool { return len(list) < 3 })
	for _, a := range lists {
		for _, b := range lists {
			d := impl.DistanceOf(a, b)
			if (d == 0) != slices.Equal(a, b) || d != impl.DistanceOf(b, a) {
				t.Fatalf("DistanceOf(%d, %d) = %d, and %d backwards", a, b, d, impl.DistanceOf(b, a))
			}
			for _, c := range lists {
				if d > impl.DistanceOf(a, c)+impl.DistanceOf(c, b) {
					t.Fatalf("DistanceOf(%d, %d) = %d, but the way by %d is shorter", a, b, d, c)
				}
			}
		}
	}
}

// TestDistanceOfLongLists has no limit for the length of a list.
func TestDistanceOfLongLists(t *testing.T) {
	const length = 100000
	a, b := slices.Repeat([]int{1000000, 0}, length), slices.Repeat([]int{0, 999999}, length)
	if got := impl.DistanceOf(a, b); got != 1000000*length {
		t.Errorf("DistanceOf long lists = %d", got)
	}
	if got := impl.DistanceOf(append(a, 0), append(b, -1)); got != -1 {
		t.Errorf("DistanceOf long lists that end with 0 and -1 = %d", got)
	}
}

func TestCatenaryOf(t *testing.T) {
	cases := []struct {
		gens    []int
		n, want int
	}{
		// The number 0, gaps and elements with one factorization.
		{[]int{3, 5}, 0, 0},
		{[]int{3, 5}, 1, 0},
		{[]int{3, 5}, 7, 0},
		{[]int{3, 5}, 3, 0},
		{[]int{3, 5}, 8, 0},
		{[]int{3, 5}, 14, 0},
		{[]int{6, 9, 20}, 0, 0},
		{[]int{6, 9, 20}, 43, 0},
		{[]int{6, 9, 20}, 49, 0},
		{[]int{5, 51}, 99, 0},
		{[]int{5, 51}, 100, 0},
		// The semigroup without gaps.
		{[]int{1}, 0, 0},
		{[]int{1}, 1, 0},
		{[]int{1}, 100, 0},
		{[]int{1}, 101, -1},
		{[]int{1}, -1, -1},
		// Two factorizations.
		{[]int{3, 5}, 15, 5},
		{[]int{3, 5}, 29, 5},
		{[]int{2, 3}, 6, 3},
		{[]int{3, 4, 5}, 8, 2},
		{[]int{3, 4, 5}, 9, 3},
		{[]int{4, 6, 9}, 12, 3},
		{[]int{6, 9, 20}, 18, 3},
		{[]int{4, 25}, 100, 25},
		{[]int{3, 31}, 93, 31},
		// Many, of which the farthest are farther from each other.
		{[]int{3, 5}, 30, 5},
		{[]int{3, 5}, 100, 5},
		{[]int{2, 3}, 100, 3},
		{[]int{4, 6, 9}, 18, 3},
		{[]int{4, 6, 9}, 36, 3},
		{[]int{6, 9, 20}, 60, 7},
		{[]int{6, 9, 20}, 59, 3},
		{[]int{6, 9, 20}, 100, 7},
		{[]int{3, 5, 7}, 21, 4},
		{[]int{3, 7, 8}, 15, 5},
		{[]int{3, 7, 8}, 14, 3},
		{[]int{3, 7, 8}, 16, 4},
		{[]int{4, 5, 6, 7}, 10, 2},
		{[]int{4, 5, 6, 7}, 20, 3},
		{[]int{6, 7, 8, 9, 10, 11}, 100, 3},
		{numbersFrom(12, 23), 24, 0},
		{numbersFrom(12, 23), 26, 2},
		{numbersFrom(12, 23), 36, 3},
		{numbersFrom(12, 23), 100, 3},
		// One more than MaxFactored, below zero and the integers at the ends.
		{[]int{3, 5}, 101, -1},
		{[]int{3, 5}, 105, -1},
		{[]int{3, 5}, 1000, -1},
		{[]int{3, 5}, -1, -1},
		{[]int{3, 5}, -15, -1},
		{[]int{3, 5}, 1<<32 + 15, -1},
		{[]int{3, 5}, math.MinInt, -1},
		{[]int{3, 5}, math.MaxInt, -1},
		// No semigroup.
		{nil, 0, -1},
		{[]int{0}, 0, -1},
		{[]int{2}, 2, -1},
		{[]int{5, 3}, 15, -1},
		{[]int{3, 5, 8}, 15, -1},
		{[]int{2, 61}, 6, -1},
	}
	for _, c := range cases {
		if byText := catenaryByText(c.gens, c.n); byText != c.want {
			t.Errorf("the test itself is wrong: %d, %d: %d", c.gens, c.n, byText)
		}
		if got := impl.CatenaryOf(impl.Semigroup{Gens: c.gens}, c.n); got != c.want {
			t.Errorf("CatenaryOf(%d, %d) = %d; want %d", c.gens, c.n, got, c.want)
		}
	}
}

// compareChain also looks at what promise 13 says of each step.
func compareChain(t *testing.T, gens []int, n int, s steps, from int, to int) {
	t.Helper()
	semigroup := impl.Semigroup{Gens: gens}
	a, b := s.found[from], s.found[to]
	got, ok := impl.ChainOf(semigroup, n, a, b)
	if want := s.chain(from, to); !ok || !equalLists(got, want) {
		t.Fatalf("ChainOf(%d, %d, %d, %d) = %d, %v; want %d", gens, n, a, b, got, ok, want)
	}
	degree := impl.CatenaryOf(semigroup, n)
	if !slices.Equal(got[0], a) || !slices.Equal(got[len(got)-1], b) {
		t.Fatalf("ChainOf(%d, %d, %d, %d) = %d", gens, n, a, b, got)
	}
	for i, list := range got {
		if !impl.IsFactorization(semigroup, n, list) || i > 0 && impl.DistanceOf(got[i-1], list) > degree {
			t.Fatalf("ChainOf(%d, %d, %d, %d) = %d, with a step to %d, but the degree is %d", gens, n, a, b, got, list, degree)
		}
	}
}

// compareCatenary looks at CatenaryOf and at some of the chains.
func compareCatenary(t *testing.T, gens []int, n int) {
	t.Helper()
	want, got := -1, impl.CatenaryOf(impl.Semigroup{Gens: gens}, n)
	s := stepsByText(gens, n)
	if isSemigroupByText(gens) && n >= 0 && n <= 100 {
		want = s.degree()
	}
	if got != want {
		t.Fatalf("CatenaryOf(%d, %d) = %d; want %d", gens, n, got, want)
	}
	last := len(s.found) - 1
	stride := 1 + last/6
	for from := 0; from <= last; from += stride {
		for to := last; to >= 0; to -= stride {
			compareChain(t, gens, n, s, from, to)
		}
	}
}

func TestCatenaryOfSomeSemigroups(t *testing.T) {
	for _, gens := range someSemigroups() {
		for n := range 101 {
			if len(gens) < 6 || n <= 50 || n%25 == 0 {
				compareCatenary(t, gens, n)
			}
		}
		for _, n := range factoredNumbers() {
			if n < 60 || n > 100 {
				compareCatenary(t, gens, n)
			}
		}
	}
}

func TestCatenaryOfManyFactorizations(t *testing.T) {
	for _, gens := range manyFactorizations() {
		for n := range 61 {
			compareCatenary(t, gens, n)
		}
		for _, n := range []int{83, 99, 100} {
			if got, want := impl.CatenaryOf(impl.Semigroup{Gens: gens}, n), catenaryByText(gens, n); got != want {
				t.Fatalf("CatenaryOf(%d, %d) = %d; want %d", gens, n, got, want)
			}
		}
	}
}

// TestCatenaryOfSubsets takes all lists of different numbers up to 9, those of
// no semigroup included.
func TestCatenaryOfSubsets(t *testing.T) {
	for set := range 1 << 9 {
		var list []int
		for g := 1; g <= 9; g++ {
			if set>>(g-1)&1 == 1 {
				list = append(list, g)
			}
		}
		for n := -1; n <= 45; n++ {
			compareCatenary(t, list, n)
		}
	}
}

func TestChainOf(t *testing.T) {
	cases := []struct {
		gens []int
		n    int
		want [][]int
	}{
		// a equal to b.
		{[]int{3, 5}, 0, [][]int{{0, 0}}},
		{[]int{3, 5}, 8, [][]int{{1, 1}}},
		{[]int{3, 5}, 15, [][]int{{5, 0}}},
		{[]int{3, 5}, 15, [][]int{{0, 3}}},
		{[]int{4, 6, 9}, 18, [][]int{{0, 3, 0}}},
		{[]int{1}, 0, [][]int{{0}}},
		{[]int{1}, 100, [][]int{{100}}},
		{numbersFrom(12, 23), 0, [][]int{make([]int, 12)}},
		// One direct step.
		{[]int{3, 5}, 15, [][]int{{5, 0}, {0, 3}}},
		{[]int{4, 6, 9}, 18, [][]int{{3, 1, 0}, {0, 3, 0}}},
		{[]int{4, 6, 9}, 18, [][]int{{0, 3, 0}, {0, 0, 2}}},
		{[]int{3, 4, 5}, 15, [][]int{{5, 0, 0}, {2, 1, 1}}},
		{[]int{3, 4, 5}, 15, [][]int{{2, 1, 1}, {0, 0, 3}}},
		// From the first factorization to the last one, in several steps.
		{[]int{3, 5}, 30, [][]int{{10, 0}, {5, 3}, {0, 6}}},
		{[]int{4, 6, 9}, 18, [][]int{{3, 1, 0}, {0, 3, 0}, {0, 0, 2}}},
		{[]int{4, 6, 9}, 36, [][]int{{9, 0, 0}, {6, 2, 0}, {3, 4, 0}, {3, 1, 2}, {0, 3, 2}, {0, 0, 4}}},
		{[]int{3, 4, 5}, 15, [][]int{{5, 0, 0}, {2, 1, 1}, {0, 0, 3}}},
		{[]int{4, 5, 6, 7}, 20, [][]int{{5, 0, 0, 0}, {2, 1, 0, 1}, {0, 0, 1, 2}}},
		// Several shortest lists: by [4 4 0] is as short.
		{[]int{6, 9, 20}, 60, [][]int{{10, 0, 0}, {7, 2, 0}, {1, 6, 0}, {0, 0, 3}}},
		// And backwards.
		{[]int{3, 5}, 15, [][]int{{0, 3}, {5, 0}}},
		{[]int{3, 5}, 30, [][]int{{0, 6}, {5, 3}, {10, 0}}},
		{[]int{4, 6, 9}, 18, [][]int{{0, 0, 2}, {0, 3, 0}, {3, 1, 0}}},
		{[]int{4, 6, 9}, 36, [][]int{{0, 0, 4}, {0, 3, 2}, {3, 1, 2}, {3, 4, 0}, {6, 2, 0}, {9, 0, 0}}},
		// Backwards it is not always the same list backwards.
		{[]int{4, 5, 6, 7}, 32, [][]int{{1, 0, 0, 4}, {3, 0, 1, 2}, {2, 1, 2, 1}, {0, 4, 2, 0}}},
		{[]int{4, 5, 6, 7}, 32, [][]int{{0, 4, 2, 0}, {3, 4, 0, 0}, {2, 2, 0, 2}, {1, 0, 0, 4}}},
	}
	for _, c := range cases {
		a, b := c.want[0], c.want[len(c.want)-1]
		if byText, ok := chainByText(c.gens, c.n, a, b); !ok || !equalLists(byText, c.want) {
			t.Errorf("the test itself is wrong: %d, %d, %d, %d: %d", c.gens, c.n, a, b, byText)
		}
		if got, ok := impl.ChainOf(impl.Semigroup{Gens: c.gens}, c.n, a, b); !ok || !equalLists(got, c.want) {
			t.Errorf("ChainOf(%d, %d, %d, %d) = %d, %v; want %d", c.gens, c.n, a, b, got, ok, c.want)
		}
	}
}

// allChains returns the chains of a number, by the text.
func allChains(s steps, from int, to int) [][][]int {
	d := s.degree()
	left := s.far(to, d)
	chains := [][]int{{from}}
	for range left[from] {
		var longer [][]int
		for _, chain := range chains {
			at := chain[len(chain)-1]
			for next, distance := range s.distances[at] {
				if distance <= d && left[next] == left[at]-1 {
					longer = append(longer, append(slices.Clone(chain), next))
				}
			}
		}
		chains = longer
	}
	slices.SortFunc(chains, slices.Compare[[]int])
	var all [][][]int
	for _, chain := range chains {
		var lists [][]int
		for _, i := range chain {
			lists = append(lists, s.found[i])
		}
		all = append(all, lists)
	}
	return all
}

// TestChainIsTheFirst holds ChainOf against all lists that are as short.
func TestChainIsTheFirst(t *testing.T) {
	several, turned := 0, 0
	for _, gens := range [][]int{{3, 5}, {4, 6, 9}, {6, 9, 20}, {3, 4, 5}, {3, 5, 7}, {4, 5, 6, 7}, {5, 7, 9, 11}, {3, 7, 8}, {4, 7, 9}} {
		for n := range 41 {
			s := stepsByText(gens, n)
			for from := range s.found {
				for to := range s.found {
					chains := allChains(s, from, to)
					got, ok := impl.ChainOf(impl.Semigroup{Gens: gens}, n, s.found[from], s.found[to])
					if !ok || !equalLists(got, chains[0]) {
						t.Fatalf("ChainOf(%d, %d, %d, %d) = %d, %v; want the first of %d", gens, n, s.found[from], s.found[to], got, ok, chains)
					}
					if len(chains) > 1 {
						several++
					}
					back, _ := impl.ChainOf(impl.Semigroup{Gens: gens}, n, s.found[to], s.found[from])
					slices.Reverse(back)
					if !equalLists(got, back) {
						turned++
					}
				}
			}
		}
	}
	if several < 100 || turned < 10 {
		t.Errorf("the test itself is wrong: only %d pairs with several chains, and %d with another one backwards", several, turned)
	}
}

func checkNoChain(t *testing.T, gens []int, n int, a []int, b []int) {
	t.Helper()
	if got, ok := impl.ChainOf(impl.Semigroup{Gens: gens}, n, a, b); len(got) > 0 || ok {
		t.Errorf("ChainOf(%d, %d, %d, %d) = %d, %v", gens, n, a, b, got, ok)
	}
}

// TestChainOfNoFactorization takes lists that are no factorizations as a, as b
// and as both.
func TestChainOfNoFactorization(t *testing.T) {
	cases := []struct {
		gens []int
		n    int
		good []int
		bad  [][]int
	}{
		{[]int{3, 5}, 15, []int{5, 0}, [][]int{{4, 0}, {0, 0}, {5, 1}, {0, 2}}},
		{[]int{3, 5}, 15, []int{0, 3}, [][]int{{}, {5}, {0}, {15}, {5, 0, 0}, {0, 3, 0}, {0, 0, 3}}},
		{[]int{3, 5}, 15, []int{0, 3}, [][]int{{10, -3}, {-5, 6}, {math.MinInt, 3}, {math.MaxInt, 0}, {1<<62 + 5, 1 << 62}}},
		{[]int{3, 5}, 8, []int{1, 1}, [][]int{{1, 0}, {1}, nil, {1, 1, 1}, {1, 2}}},
		{[]int{3, 5}, 0, []int{0, 0}, [][]int{{5, -3}, {0}, nil, {0, 0, 0}}},
		{[]int{1}, 6, []int{6}, [][]int{{5}, {7}, {}, {6, 0}, {-6}}},
		{[]int{4, 6, 9}, 18, []int{0, 0, 2}, [][]int{{2, 0, 0}, {0, 2}, {3, 0, 1}, {0, 0, 2, 0}, {6, -1, 0}}},
	}
	for _, c := range cases {
		if got, ok := impl.ChainOf(impl.Semigroup{Gens: c.gens}, c.n, c.good, c.good); !ok || !equalLists(got, [][]int{c.good}) {
			t.Errorf("ChainOf(%d, %d) from %d to itself = %d, %v", c.gens, c.n, c.good, got, ok)
		}
		for _, bad := range c.bad {
			checkNoChain(t, c.gens, c.n, c.good, bad)
			checkNoChain(t, c.gens, c.n, bad, c.good)
			checkNoChain(t, c.gens, c.n, bad, bad)
		}
	}
	// Numbers with no factorizations, or with none that are given.
	for _, n := range []int{7, 14, 16, 101, 105, -15, -1, math.MinInt, math.MaxInt} {
		checkNoChain(t, []int{3, 5}, n, []int{5, 0}, []int{0, 3})
		checkNoChain(t, []int{3, 5}, n, []int{35, 0}, []int{35, 0})
		checkNoChain(t, []int{3, 5}, n, nil, nil)
	}
}

// TestChainOfShortLists takes all pairs of lists of small numbers.
func TestChainOfShortLists(t *testing.T) {
	cases := []struct {
		gens, numbers []int
		length        int
		values        []int
	}{
		{[]int{1}, numbersFrom(-1, 3), 2, numbersFrom(-1, 4)},
		{[]int{2, 3}, numbersFrom(-1, 3), 2, numbersFrom(-1, 15)},
		{[]int{2, 3}, numbersFrom(-1, 2), 3, []int{0, 5, 6}},
		{[]int{3, 4, 5}, numbersFrom(0, 3), 3, []int{0, 8, 9, 12}},
	}
	for _, c := range cases {
		lists := shortLists(c.numbers, c.length)
		for _, n := range c.values {
			s := stepsByText(c.gens, n)
			for _, a := range lists {
				for _, b := range lists {
					var want [][]int
					from, to := s.indexOf(a), s.indexOf(b)
					if from >= 0 && to >= 0 {
						want = s.chain(from, to)
					}
					got, ok := impl.ChainOf(impl.Semigroup{Gens: c.gens}, n, a, b)
					if !equalLists(got, want) || ok != (len(want) > 0) {
						t.Fatalf("ChainOf(%d, %d, %d, %d) = %d, %v; want %d", c.gens, n, a, b, got, ok, want)
					}
				}
			}
		}
	}
}

func TestCatenaryDegree(t *testing.T) {
	cases := []struct {
		gens       []int
		most, want int
	}{
		{[]int{3, 5}, 0, 0},
		{[]int{3, 5}, 1, 0},
		{[]int{3, 5}, 14, 0},
		{[]int{3, 5}, 15, 5},
		{[]int{3, 5}, 16, 5},
		{[]int{3, 5}, 40, 5},
		{[]int{3, 5}, 100, 5},
		{[]int{4, 6, 9}, 11, 0},
		{[]int{4, 6, 9}, 12, 3},
		{[]int{4, 6, 9}, 40, 3},
		{[]int{6, 9, 20}, 17, 0},
		{[]int{6, 9, 20}, 18, 3},
		{[]int{6, 9, 20}, 59, 3},
		{[]int{6, 9, 20}, 60, 7},
		{[]int{6, 9, 20}, 100, 7},
		{[]int{3, 4, 5}, 8, 2},
		{[]int{3, 4, 5}, 9, 3},
		// A greatest degree that is not that of the greatest number.
		{[]int{3, 7, 8}, 14, 3},
		{[]int{3, 7, 8}, 15, 5},
		{[]int{3, 7, 8}, 16, 5},
		{[]int{3, 7, 8}, 100, 5},
		{[]int{4, 5, 11}, 100, 5},
		{[]int{7, 17, 60}, 100, 11},
		{[]int{4, 25}, 99, 0},
		{[]int{4, 25}, 100, 25},
		{[]int{2, 59}, 100, 0},
		{numbersFrom(12, 23), 100, 3},
		// The semigroup without gaps.
		{[]int{1}, 0, 0},
		{[]int{1}, 100, 0},
		{[]int{1}, 101, -1},
		{[]int{1}, -1, -1},
		// Beyond the limits.
		{[]int{3, 5}, 101, -1},
		{[]int{3, 5}, 1000, -1},
		{[]int{3, 5}, -1, -1},
		{[]int{3, 5}, 1<<32 + 15, -1},
		{[]int{3, 5}, math.MinInt, -1},
		{[]int{3, 5}, math.MaxInt, -1},
		// No semigroup.
		{nil, 40, -1},
		{[]int{2}, 40, -1},
		{[]int{5, 3}, 40, -1},
		{[]int{3, 5, 8}, 40, -1},
	}
	for _, c := range cases {
		if got := impl.CatenaryDegree(impl.Semigroup{Gens: c.gens}, c.most); got != c.want {
			t.Errorf("CatenaryDegree(%d, %d) = %d; want %d", c.gens, c.most, got, c.want)
		}
	}
}

func TestCatenaryDegreeOfSomeSemigroups(t *testing.T) {
	for _, gens := range someSemigroups() {
		s := impl.Semigroup{Gens: gens}
		want := 0
		for most := range 101 {
			if len(gens) >= 6 && most > 60 {
				break
			}
			want = max(want, catenaryByText(gens, most))
			if got := impl.CatenaryDegree(s, most); got != want {
				t.Fatalf("CatenaryDegree(%d, %d) = %d; want %d", gens, most, got, want)
			}
		}
		for _, most := range factoredNumbers() {
			if got := impl.CatenaryDegree(s, most); (most < 0 || most > 100) != (got == -1) {
				t.Errorf("CatenaryDegree(%d, %d) = %d", gens, most, got)
			}
		}
	}
}

func TestDistancesOfNoSemigroup(t *testing.T) {
	for _, gens := range append(invalidGens(), []int{48, 60}, []int{1, 1}) {
		s := impl.Semigroup{Gens: gens}
		for _, n := range factoredNumbers() {
			if c, d := impl.CatenaryOf(s, n), impl.CatenaryDegree(s, n); c != -1 || d != -1 {
				t.Errorf("CatenaryOf and CatenaryDegree of %d, which is no semigroup, and %d are %d and %d", gens, n, c, d)
			}
		}
		for _, list := range [][]int{nil, {0}, {1, 1}, make([]int, len(gens)), slices.Repeat([]int{1}, len(gens))} {
			for _, n := range []int{0, 1, 2, 8, 15} {
				checkNoChain(t, gens, n, list, list)
			}
		}
	}
}

func TestDistanceCallsLeaveTheirArguments(t *testing.T) {
	calls := map[string]func(s impl.Semigroup, a []int, b []int){
		"DistanceOf":     func(s impl.Semigroup, a []int, b []int) { impl.DistanceOf(a, b) },
		"CatenaryOf":     func(s impl.Semigroup, a []int, b []int) { impl.CatenaryOf(s, 60); impl.CatenaryOf(s, 101) },
		"CatenaryDegree": func(s impl.Semigroup, a []int, b []int) { impl.CatenaryDegree(s, 40); impl.CatenaryDegree(s, -1) },
		"ChainOf":        func(s impl.Semigroup, a []int, b []int) { impl.ChainOf(s, impl.ValueOf(s, a), a, b) },
	}
	for name, call := range calls {
		for _, gens := range append(validGens(), invalidGens()...) {
			lists := [][]int{nil, {1}, {-1, 2}, make([]int, len(gens)), slices.Repeat([]int{1}, len(gens)), slices.Repeat([]int{1000001}, len(gens))}
			if found := factorizationsByText(gens, 60); len(found) > 0 {
				lists = append(lists, found[0], found[len(found)-1])
			}
			for _, a := range lists {
				for _, b := range lists {
					g, x, y := guard(gens), guard(a), guard(b)
					call(impl.Semigroup{Gens: g.list}, x.list, y.list)
					g.check(t, name, gens)
					x.check(t, name, a)
					y.check(t, name, b)
				}
			}
		}
	}
}

// checkListsAreNewMemory changes the lists of one result of a call one after
// another, with their unused capacity, and looks at those that follow and at
// other results. What the call takes is looked at by unchanged.
func checkListsAreNewMemory(t *testing.T, name string, call func() [][]int, unchanged func()) {
	t.Helper()
	first := call()
	want := copyOfLists(first)
	second := call()
	for i, list := range first {
		scribble(list)
		if !equalLists(first[i+1:], want[i+1:]) {
			t.Fatalf("a change of one list of %s changes another one", name)
		}
	}
	unchanged()
	scribbled := first[:cap(first)]
	for i := range scribbled {
		scribbled[i] = nil
	}
	if third := call(); !equalLists(second, want) || !equalLists(third, want) {
		t.Fatalf("%s = %d and %d after others were changed; want %d", name, second, third, want)
	}
}

func TestChainIsNewMemory(t *testing.T) {
	for _, gens := range factoredSemigroups() {
		for _, n := range []int{0, gens[0], 36, 60} {
			found := factorizationsByText(gens, n)
			if len(found) == 0 {
				continue
			}
			for _, ends := range [][2]int{{0, len(found) - 1}, {len(found) - 1, 0}, {0, 0}, {len(found) / 2, 0}} {
				a, b := found[ends[0]], found[ends[1]]
				g, x, y := guard(gens), guard(a), guard(b)
				call := func() [][]int {
					chain, _ := impl.ChainOf(impl.Semigroup{Gens: g.list}, n, x.list, y.list)
					return chain
				}
				checkListsAreNewMemory(t, "ChainOf", call, func() {
					g.check(t, "ChainOf, or a change of its result,", gens)
					x.check(t, "ChainOf, or a change of its result,", a)
					y.check(t, "ChainOf, or a change of its result,", b)
				})
				chain := call()
				want := copyOfLists(chain)
				scribble(g.whole)
				scribble(x.whole)
				scribble(y.whole)
				if !equalLists(chain, want) {
					t.Fatalf("ChainOf(%d, %d, %d, %d) = %d after its arguments were changed", gens, n, a, b, chain)
				}
			}
		}
	}
}
