package tests

import (
	"math"
	"slices"
	"sync"
	"testing"

	"loop.example/g00595/impl"
)

// Promise 27: no stamps reach farther than the best.

func areStampsByText(stamps []int) bool {
	for i, stamp := range stamps {
		if stamp < 1 || stamp > 60 || i > 0 && stamp <= stamps[i-1] {
			return false
		}
	}
	return len(stamps) >= 1 && len(stamps) <= 6
}

// takenByText goes through all ways to take at most h stamps, and keeps for each
// sum the one to be preferred: as with coins, the one with fewer stamps, or with
// more of the greatest stamp that differs.
func takenByText(stamps []int, h int) map[int][]int {
	best := map[int][]int{}
	taken := make([]int, len(stamps))
	var take func(i int, left int, sum int)
	take = func(i int, left int, sum int) {
		if i == len(stamps) {
			if other, known := best[sum]; !known || comesFirst(taken, other) {
				best[sum] = slices.Clone(taken)
			}
			return
		}
		for count := 0; count <= left; count++ {
			taken[i] = count
			take(i+1, left-count, sum+count*stamps[i])
		}
		taken[i] = 0
	}
	take(0, h, 0)
	return best
}

func reachByText(best map[int][]int) int {
	n := 0
	for best[n+1] != nil {
		n++
	}
	return n
}

// stampLists returns the ascending lists of count numbers from 1 to most, in
// order.
func stampLists(count int, most int) [][]int {
	lists := [][]int{nil}
	for range count {
		var longer [][]int
		for _, list := range lists {
			from := 1
			if len(list) > 0 {
				from = list[len(list)-1] + 1
			}
			for n := from; n <= most; n++ {
				longer = append(longer, append(slices.Clone(list), n))
			}
		}
		lists = longer
	}
	return lists
}

// quickReach counts the stamps that each number needs, for the many lists among
// which the best one is searched.
func quickReach(stamps []int, h int) int {
	needed := []int{0}
	for n := 1; ; n++ {
		least := h + 1
		for _, stamp := range stamps {
			if stamp <= n {
				least = min(least, needed[n-stamp]+1)
			}
		}
		if least > h {
			return n - 1
		}
		needed = append(needed, least)
	}
}

// bestKnown is the best list of some stamps, and how many others are as good.
type bestKnown struct {
	stamps []int
	reach  int
	others int
}

// bestByText are the best lists of k stamps from 1 to 60 for each h, by k and h.
var bestByText = sync.OnceValue(func() [4][5]bestKnown {
	var best [4][5]bestKnown
	for k := 1; k <= 3; k++ {
		for _, stamps := range stampLists(k, 60) {
			for h := 1; h <= 4; h++ {
				b := &best[k][h]
				switch reach := quickReach(stamps, h); {
				case b.stamps == nil || reach > b.reach:
					*b = bestKnown{stamps, reach, 0}
				case reach == b.reach:
					b.others++
				}
			}
		}
	}
	return best
})

// compareStamps looks at the reach, and at all sums around the limits, for
// stamps and an h that are valid.
func compareStamps(t *testing.T, stamps []int, h int) int {
	t.Helper()
	best := takenByText(stamps, h)
	reach := reachByText(best)
	if got := impl.ReachOf(stamps, h); got != reach || quickReach(stamps, h) != reach {
		t.Fatalf("ReachOf(%d, %d) = %d; want %d, or %d", stamps, h, got, reach, quickReach(stamps, h))
	}
	for n := -2; n <= h*stamps[len(stamps)-1]+70; n++ {
		want := best[n]
		if got, ok := impl.StampsFor(stamps, h, n); !slices.Equal(got, want) || ok != (want != nil) {
			t.Fatalf("StampsFor(%d, %d, %d) = %d, %v; want %d", stamps, h, n, got, ok, want)
		}
	}
	return reach
}

func validStamps() [][]int {
	return [][]int{
		{1}, {2}, {59}, {60}, {1, 2}, {1, 3}, {1, 60}, {2, 3}, {3, 4}, {59, 60}, {1, 3, 4}, {1, 4, 5}, {1, 5, 8}, {1, 2, 3}, {2, 3, 4}, {1, 4, 7, 8},
		{1, 2, 5, 10, 20, 50}, {1, 4, 9, 16, 25, 36}, {1, 2, 3, 4, 5, 6}, {55, 56, 57, 58, 59, 60}, {1, 7, 12, 43, 52, 60}, {2, 4, 6}, {1, 9, 11, 31},
		{10, 20, 30, 40, 50, 60}, {1, 31, 32, 33}, {6, 10, 15}, {1, 7, 12, 18, 23, 29},
	}
}

func invalidStamps() [][]int {
	return [][]int{
		nil,
		{},
		// Below 1.
		{0}, {-1}, {0, 1}, {-1, 1}, {-60, 1, 2}, {0, 2, 3}, {math.MinInt}, {math.MinInt, 1}, {math.MinInt, math.MaxInt},
		// Greater than 60.
		{61}, {1, 61}, {60, 61}, {1, 2, 61}, {1, 100}, {1, 2, math.MaxInt}, {math.MaxInt}, {1 << 32}, {1<<32 + 1}, {1, 1<<32 + 3},
		// Not strictly ascending, equal ones included.
		{1, 1}, {3, 1}, {2, 1}, {1, 3, 2}, {4, 3, 1}, {1, 2, 2}, {1, 1, 2}, {1, 3, 3, 4}, {60, 60}, {1, 0}, {1, -1}, {2, math.MinInt}, {5, 4, 3, 2, 1},
		// More than 6.
		numbersFrom(1, 7), numbersFrom(1, 8), numbersFrom(54, 60), numbersFrom(1, 60), slices.Repeat([]int{1}, 7),
	}
}

func TestAreStamps(t *testing.T) {
	for _, stamps := range validStamps() {
		if !areStampsByText(stamps) || !impl.AreStamps(stamps) {
			t.Errorf("AreStamps(%d) = %v", stamps, impl.AreStamps(stamps))
		}
	}
	for _, stamps := range invalidStamps() {
		if areStampsByText(stamps) || impl.AreStamps(stamps) {
			t.Errorf("AreStamps(%d) = %v", stamps, impl.AreStamps(stamps))
		}
	}
	for _, stamps := range shortLists([]int{-1, 0, 1, 2, 59, 60, 61}, 4) {
		if got, want := impl.AreStamps(stamps), areStampsByText(stamps); got != want {
			t.Errorf("AreStamps(%d) = %v; want %v", stamps, got, want)
		}
	}
	for count := 1; count <= 9; count++ {
		if got := impl.AreStamps(numbersFrom(1, count)); got != (count <= 6) {
			t.Errorf("AreStamps of %d stamps = %v", count, got)
		}
	}
}

func TestReachOf(t *testing.T) {
	cases := []struct {
		stamps  []int
		h, want int
	}{
		{[]int{1, 3}, 3, 7},
		{[]int{1, 4, 5}, 3, 15},
		{[]int{1, 3, 4}, 2, 8},
		{[]int{1, 5, 8}, 4, 26},
		{[]int{1, 7, 12, 43, 52}, 6, 216},
		{[]int{1, 2, 3, 4, 5, 6}, 6, 36},
		{[]int{1, 7, 12, 18, 23, 29}, 6, 102},
		// Stamps without a one.
		{[]int{2}, 3, 0},
		{[]int{60}, 6, 0},
		{[]int{2, 3}, 6, 0},
		{[]int{2, 3, 4, 5, 6, 7}, 6, 0},
		// Only one stamp.
		{[]int{1}, 1, 1},
		{[]int{1}, 6, 6},
		{[]int{1, 60}, 6, 6},
		{[]int{1, 2, 60}, 6, 12},
		// h of 1, 6, 7 and below its limit.
		{[]int{1, 2, 4}, 1, 2},
		{[]int{1, 3}, 1, 1},
		{[]int{1, 3}, 6, 16},
		{[]int{1, 3}, 7, -1},
		{[]int{1, 3}, 0, -1},
		{[]int{1, 3}, -1, -1},
		{[]int{1}, 7, -1},
		{[]int{2}, 7, -1},
		{[]int{1}, 0, -1},
		{[]int{2}, 0, -1},
		{[]int{1, 3}, math.MinInt, -1},
		{[]int{1, 3}, math.MaxInt, -1},
		{[]int{1, 3}, 1 << 32, -1},
		{[]int{1, 3}, 1<<32 + 3, -1},
		// 6 stamps and 7, the stamps 60 and 61, and other invalid ones.
		{[]int{1, 2, 3, 4, 5, 60}, 1, 5},
		{numbersFrom(1, 7), 1, -1},
		{[]int{1, 61}, 6, -1},
		{[]int{61}, 1, -1},
		{nil, 1, -1},
		{[]int{}, 6, -1},
		{[]int{3, 1}, 3, -1},
		{[]int{1, 1}, 3, -1},
		{[]int{0, 1}, 3, -1},
		{[]int{-1, 1}, 3, -1},
	}
	for _, c := range cases {
		if got := impl.ReachOf(c.stamps, c.h); got != c.want {
			t.Errorf("ReachOf(%d, %d) = %d; want %d", c.stamps, c.h, got, c.want)
		}
	}
}

func TestStampsFor(t *testing.T) {
	cases := []struct {
		stamps []int
		h, n   int
		want   []int
	}{
		{[]int{1, 3}, 3, 5, []int{2, 1}},
		{[]int{1, 4, 5}, 3, 13, []int{0, 2, 1}},
		// Sums that need all h stamps, and such that need more.
		{[]int{1, 3}, 3, 9, []int{0, 3}},
		{[]int{1, 3}, 3, 8, nil},
		{[]int{1, 3}, 2, 5, nil},
		{[]int{1, 3}, 4, 8, []int{2, 2}},
		{[]int{1}, 6, 6, []int{6}},
		{[]int{1}, 6, 7, nil},
		{[]int{60}, 6, 360, []int{6}},
		{[]int{60}, 5, 360, nil},
		{[]int{59, 60}, 6, 359, []int{1, 5}},
		// Stamps without a one.
		{[]int{2}, 3, 1, nil},
		{[]int{2}, 3, 6, []int{3}},
		{[]int{2, 3}, 3, 7, []int{2, 1}},
		{[]int{3, 4}, 6, 5, nil},
		{[]int{60}, 6, 59, nil},
		{[]int{60}, 6, 61, nil},
		// Several with the fewest stamps: 1 and 5, 2 and 4, or 3 and 3; 2 and 4, or
		// 3 and 3; 4, 7 and 7, or 6, 6 and 6; 2 and 11, or 5 and 8; 1, 4 and 4, or
		// 3, 3 and 3; 3, 3 and 9, 3, 5 and 7, or 5, 5 and 5.
		{[]int{1, 2, 3, 4, 5}, 6, 6, []int{1, 0, 0, 0, 1}},
		{[]int{2, 3, 4}, 2, 6, []int{1, 0, 1}},
		{[]int{1, 4, 6, 7}, 6, 18, []int{0, 1, 0, 2}},
		{[]int{1, 2, 5, 8, 11}, 2, 13, []int{0, 1, 0, 0, 1}},
		{[]int{1, 3, 4}, 6, 9, []int{1, 0, 2}},
		{[]int{3, 5, 7, 9}, 3, 15, []int{2, 0, 0, 1}},
		// The fewest stamps, although there is one with more of the greatest.
		{[]int{1, 3, 4}, 6, 6, []int{0, 2, 0}},
		{[]int{1, 5, 8, 10}, 6, 13, []int{0, 1, 1, 0}},
		// The sum 0.
		{[]int{1, 3}, 3, 0, []int{0, 0}},
		{[]int{60}, 1, 0, []int{0}},
		{[]int{2, 3, 4, 5, 6, 7}, 6, 0, []int{0, 0, 0, 0, 0, 0}},
		// The sums 400 and 401, and below zero.
		{[]int{60}, 6, 400, nil},
		{[]int{60}, 6, 401, nil},
		{[]int{50, 60}, 6, 361, nil},
		{[]int{1, 3}, 3, 400, nil},
		{[]int{1, 3}, 3, 401, nil},
		{[]int{1, 3}, 3, -1, nil},
		{[]int{1, 3}, 3, -3, nil},
		{[]int{1, 3}, 3, math.MinInt, nil},
		{[]int{1, 3}, 3, math.MaxInt, nil},
		{[]int{1, 3}, 3, 1 << 32, nil},
		{[]int{1, 3}, 3, 1<<32 + 5, nil},
		// h of 1, 6, 7 and below its limit.
		{[]int{1, 3}, 1, 3, []int{0, 1}},
		{[]int{1, 3}, 1, 2, nil},
		{[]int{1, 3}, 6, 18, []int{0, 6}},
		{[]int{1, 3}, 7, 3, nil},
		{[]int{1, 3}, 7, 0, nil},
		{[]int{1, 3}, 0, 0, nil},
		{[]int{1, 3}, 0, 3, nil},
		{[]int{1, 3}, -1, 0, nil},
		{[]int{1, 3}, math.MinInt, 0, nil},
		{[]int{1, 3}, math.MaxInt, 3, nil},
		{[]int{1, 3}, 1<<32 + 1, 3, nil},
		// 6 stamps and 7, the stamps 60 and 61, and other invalid ones.
		{[]int{1, 2, 3, 4, 5, 60}, 2, 65, []int{0, 0, 0, 0, 1, 1}},
		{numbersFrom(1, 7), 2, 7, nil},
		{[]int{1, 61}, 2, 1, nil},
		{nil, 1, 0, nil},
		{nil, 6, 5, nil},
		{[]int{3, 1}, 3, 3, nil},
		{[]int{1, 1}, 3, 1, nil},
		{[]int{0, 1}, 3, 1, nil},
		{[]int{0, 1}, 3, 0, nil},
		{[]int{-1, 1}, 3, 1, nil},
	}
	for _, c := range cases {
		if c.want != nil && !slices.Equal(takenByText(c.stamps, c.h)[c.n], c.want) {
			t.Errorf("the test itself is wrong: %d, %d, %d: %d", c.stamps, c.h, c.n, takenByText(c.stamps, c.h)[c.n])
		}
		if got, ok := impl.StampsFor(c.stamps, c.h, c.n); !slices.Equal(got, c.want) || ok != (c.want != nil) {
			t.Errorf("StampsFor(%d, %d, %d) = %d, %v; want %d", c.stamps, c.h, c.n, got, ok, c.want)
		}
	}
}

func TestSomeStamps(t *testing.T) {
	for _, stamps := range validStamps() {
		for h := 1; h <= 6; h++ {
			compareStamps(t, stamps, h)
		}
	}
}

func TestAllSmallStamps(t *testing.T) {
	reached := map[bool]int{}
	for count := 1; count <= 6; count++ {
		for _, stamps := range stampLists(count, 8) {
			for _, h := range []int{1, 2, 3, 5, 6} {
				reached[compareStamps(t, stamps, h) > 0]++
			}
		}
	}
	if reached[true] < 300 || reached[false] < 300 {
		t.Errorf("the test itself is wrong: %v", reached)
	}
}

func TestBestStamps(t *testing.T) {
	cases := []struct {
		k, h   int
		stamps []int
		reach  int
	}{
		{1, 1, []int{1}, 1},
		{1, 2, []int{1}, 2},
		{1, 3, []int{1}, 3},
		{1, 4, []int{1}, 4},
		{2, 1, []int{1, 2}, 2},
		{2, 2, []int{1, 2}, 4},
		{2, 3, []int{1, 3}, 7},
		{2, 4, []int{1, 3}, 10},
		{3, 1, []int{1, 2, 3}, 3},
		{3, 2, []int{1, 3, 4}, 8},
		{3, 3, []int{1, 4, 5}, 15},
		{3, 4, []int{1, 5, 8}, 26},
		// k and h beyond their limits.
		{0, 1, nil, 0},
		{0, 4, nil, 0},
		{4, 1, nil, 0},
		{4, 4, nil, 0},
		{-1, 2, nil, 0},
		{1, 0, nil, 0},
		{3, 0, nil, 0},
		{1, 5, nil, 0},
		{3, 5, nil, 0},
		{2, 6, nil, 0},
		{2, -1, nil, 0},
		{0, 0, nil, 0},
		{4, 5, nil, 0},
		{math.MinInt, 1, nil, 0},
		{math.MaxInt, 1, nil, 0},
		{1, math.MinInt, nil, 0},
		{1, math.MaxInt, nil, 0},
		{math.MinInt, math.MaxInt, nil, 0},
		{1<<32 + 1, 1, nil, 0},
		{1, 1<<32 + 1, nil, 0},
	}
	for _, c := range cases {
		if stamps, reach := impl.BestStamps(c.k, c.h); !slices.Equal(stamps, c.stamps) || reach != c.reach {
			t.Errorf("BestStamps(%d, %d) = %d, %d; want %d, %d", c.k, c.h, stamps, reach, c.stamps, c.reach)
		}
	}
}

// TestFirstOfBestStamps searches all lists of stamps; for some k and h, several
// have the same reach, of which the first one is returned.
func TestFirstOfBestStamps(t *testing.T) {
	several := 0
	for k := 1; k <= 3; k++ {
		for h := 1; h <= 4; h++ {
			want := bestByText()[k][h]
			if stamps, reach := impl.BestStamps(k, h); !slices.Equal(stamps, want.stamps) || reach != want.reach {
				t.Errorf("BestStamps(%d, %d) = %d, %d; want %d, %d", k, h, stamps, reach, want.stamps, want.reach)
			}
			if want.others > 0 {
				several++
			}
		}
	}
	if several < 2 {
		t.Errorf("the test itself is wrong: only %d have several best lists", several)
	}
}

// TestNoStampsReachFarther states the promise in terms of ReachOf.
func TestNoStampsReachFarther(t *testing.T) {
	for k := 1; k <= 3; k++ {
		var best [5]int
		for h := 1; h <= 4; h++ {
			stamps, reach := impl.BestStamps(k, h)
			if impl.ReachOf(stamps, h) != reach || len(stamps) != k {
				t.Fatalf("BestStamps(%d, %d) = %d, %d, but ReachOf is %d", k, h, stamps, reach, impl.ReachOf(stamps, h))
			}
			best[h] = reach
		}
		for _, stamps := range stampLists(k, 60) {
			for h := 1; h <= 4; h++ {
				if reach := impl.ReachOf(stamps, h); reach > best[h] {
					t.Fatalf("%d reach %d, farther than BestStamps(%d, %d)", stamps, reach, k, h)
				}
			}
		}
	}
}

// TestReachAndStamps: up to the reach there are stamps for all sums, and none
// for the next one.
func TestReachAndStamps(t *testing.T) {
	for _, stamps := range validStamps() {
		for h := 1; h <= 6; h++ {
			reach := impl.ReachOf(stamps, h)
			for n := 0; n <= reach+1; n++ {
				taken, ok := impl.StampsFor(stamps, h, n)
				sum := 0
				for i, count := range taken {
					sum += count * stamps[i]
				}
				if ok != (n <= reach) || ok && (sum != n || totalOf(taken) > h) {
					t.Fatalf("StampsFor(%d, %d, %d) = %d, %v, but ReachOf is %d", stamps, h, n, taken, ok, reach)
				}
			}
		}
	}
}

func TestNoStamps(t *testing.T) {
	for _, stamps := range invalidStamps() {
		for _, h := range []int{math.MinInt, -1, 0, 1, 3, 6, 7, math.MaxInt} {
			if got := impl.ReachOf(stamps, h); got != -1 {
				t.Errorf("ReachOf(%d, %d), of no stamps, = %d", stamps, h, got)
			}
			for _, n := range []int{math.MinInt, -1, 0, 1, 6, 60, 400, 401, math.MaxInt} {
				if got, ok := impl.StampsFor(stamps, h, n); len(got) > 0 || ok {
					t.Errorf("StampsFor(%d, %d, %d), of no stamps, = %d, %v", stamps, h, n, got, ok)
				}
			}
		}
	}
	for _, stamps := range validStamps() {
		for _, h := range []int{math.MinInt, math.MinInt + 1, -1 << 32, -6, -1, 0, 7, 8, 60, 1 << 32, 1<<32 + 1, math.MaxInt - 1, math.MaxInt} {
			if got := impl.ReachOf(stamps, h); got != -1 {
				t.Errorf("ReachOf(%d, %d) = %d", stamps, h, got)
			}
			for _, n := range []int{math.MinInt, -1, 0, stamps[0], 60, 400, 401, math.MaxInt} {
				if got, ok := impl.StampsFor(stamps, h, n); len(got) > 0 || ok {
					t.Errorf("StampsFor(%d, %d, %d) = %d, %v", stamps, h, n, got, ok)
				}
			}
		}
		for _, n := range []int{math.MinInt, math.MinInt + 1, -1 << 32, -400, -60, -1, 361, 383, 384, 399, 400, 401, 447, 448, 449, 512, 1000, 1 << 32, 1<<32 + 60, math.MaxInt - 1, math.MaxInt} {
			if got, ok := impl.StampsFor(stamps, 6, n); len(got) > 0 || ok {
				t.Errorf("StampsFor(%d, 6, %d) = %d, %v", stamps, n, got, ok)
			}
		}
	}
}

// stampCalls take the stamps as the Gens of a Semigroup.
func stampCalls() map[string]func(s impl.Semigroup) []int {
	stampsFor := func(s impl.Semigroup, h int, n int) []int {
		taken, _ := impl.StampsFor(s.Gens, h, n)
		return taken
	}
	best := func(k int, h int) []int {
		stamps, _ := impl.BestStamps(k, h)
		return stamps
	}
	return map[string]func(s impl.Semigroup) []int{
		"AreStamps":          func(s impl.Semigroup) []int { impl.AreStamps(s.Gens); return nil },
		"ReachOf":            func(s impl.Semigroup) []int { impl.ReachOf(s.Gens, 4); impl.ReachOf(s.Gens, 7); return nil },
		"StampsFor of 12":    func(s impl.Semigroup) []int { return stampsFor(s, 6, 12) },
		"StampsFor of 60":    func(s impl.Semigroup) []int { return stampsFor(s, 4, 60) },
		"StampsFor of 0":     func(s impl.Semigroup) []int { return stampsFor(s, 1, 0) },
		"StampsFor of 401":   func(s impl.Semigroup) []int { return stampsFor(s, 6, 401) },
		"BestStamps of 1":    func(s impl.Semigroup) []int { return best(1, 3) },
		"BestStamps of 3":    func(s impl.Semigroup) []int { return best(3, 3) },
		"BestStamps of none": func(s impl.Semigroup) []int { return best(4, 3) },
	}
}

func TestStampCallsLeaveTheStamps(t *testing.T) {
	checkCallsLeaveGens(t, stampCalls(), append(validStamps(), invalidStamps()...))
}

func TestStampResultsAreNewMemory(t *testing.T) {
	checkCallsGiveNewMemory(t, stampCalls(), validStamps())
}
