package tests

import (
	"math"
	"slices"
	"testing"

	"loop.example/g00595/impl"
)

// Promise 26: coins are orderly exactly if greed wastes none.

func areCoinsByText(coins []int) bool {
	for i, coin := range coins {
		if coin < 1 || coin > 500 || i == 0 && coin != 1 || i > 0 && coin <= coins[i-1] {
			return false
		}
	}
	return len(coins) >= 1 && len(coins) <= 10
}

// greedyByText takes one coin after another.
func greedyByText(coins []int, n int) []int {
	taken := make([]int, len(coins))
	for n > 0 {
		i := len(coins) - 1
		for coins[i] > n {
			i--
		}
		taken[i]++
		n -= coins[i]
	}
	return taken
}

func totalOf(list []int) int {
	total := 0
	for _, n := range list {
		total += n
	}
	return total
}

// comesFirst tells whether a change is to be preferred to another one: with
// fewer coins, or with more of the greatest coin that differs.
func comesFirst(a []int, b []int) bool {
	if totalOf(a) != totalOf(b) {
		return totalOf(a) < totalOf(b)
	}
	for i := len(a) - 1; i >= 0; i-- {
		if a[i] != b[i] {
			return a[i] > b[i]
		}
	}
	return false
}

// bestChangesByText returns the best changes of the numbers from 0 to most: each
// one is that of a lesser number and one more coin.
func bestChangesByText(coins []int, most int) [][]int {
	best := [][]int{make([]int, len(coins))}
	for n := 1; n <= most; n++ {
		var first []int
		for i, coin := range coins {
			if coin > n {
				continue
			}
			other := slices.Clone(best[n-coin])
			other[i]++
			if first == nil || comesFirst(other, first) {
				first = other
			}
		}
		best = append(best, first)
	}
	return best
}

// allChanges returns all changes of a number.
func allChanges(coins []int, n int) [][]int {
	if len(coins) == 1 {
		if n%coins[0] > 0 {
			return nil
		}
		return [][]int{{n / coins[0]}}
	}
	var all [][]int
	last := coins[len(coins)-1]
	for count := 0; count*last <= n; count++ {
		for _, others := range allChanges(coins[:len(coins)-1], n-count*last) {
			all = append(all, append(others, count))
		}
	}
	return all
}

// firstWasteByText looks at all amounts up to 2000.
func firstWasteByText(coins []int, best [][]int) (int, bool) {
	for n := range best {
		if totalOf(greedyByText(coins, n)) > totalOf(best[n]) {
			return n, true
		}
	}
	return 0, false
}

// changeFacts is what chapter 26 says of coins and an amount.
type changeFacts struct {
	greedy, best []int
	fewest       int
}

func noChangeFacts() changeFacts { return changeFacts{fewest: -1} }

func changeFactsOf(coins []int, n int) changeFacts {
	return changeFacts{impl.GreedyChange(coins, n), impl.BestChange(coins, n), impl.FewestCoins(coins, n)}
}

func (f changeFacts) equals(g changeFacts) bool {
	return slices.Equal(f.greedy, g.greedy) && slices.Equal(f.best, g.best) && f.fewest == g.fewest
}

// compareCoins looks at the amounts, which are from 0 to 2000, and at the first
// waste, for coins that are valid.
func compareCoins(t *testing.T, coins []int, amounts []int) (int, bool) {
	t.Helper()
	best := bestChangesByText(coins, 2000)
	for _, n := range amounts {
		want := changeFacts{greedyByText(coins, n), best[n], totalOf(best[n])}
		if got := changeFactsOf(coins, n); !got.equals(want) {
			t.Fatalf("the changes of %d with %d are %v; want %v", n, coins, got, want)
		}
	}
	waste, wastes := firstWasteByText(coins, best)
	if got, ok := impl.FirstWaste(coins); got != waste || ok != wastes {
		t.Fatalf("FirstWaste(%d) = %d, %v; want %d, %v", coins, got, ok, waste, wastes)
	}
	if !impl.AreCoins(coins) || impl.IsOrderly(coins) == wastes {
		t.Fatalf("AreCoins(%d) = %v, and IsOrderly is %v", coins, impl.AreCoins(coins), impl.IsOrderly(coins))
	}
	return waste, wastes
}

// validCoins are some coins, and those at the limits.
func validCoins() [][]int {
	return [][]int{
		{1}, {1, 2}, {1, 500}, {1, 499, 500}, {1, 2, 500}, {1, 3, 4}, {1, 5, 10, 25}, {1, 10, 25}, {1, 5, 8, 10}, {1, 5, 8, 12}, {1, 7, 10},
		{1, 2, 5, 10, 20, 50, 100, 200}, {1, 2, 4, 8, 16, 32, 64, 128, 256}, {1, 3, 6, 12, 24, 30}, {1, 4, 6, 9}, {1, 3, 5, 7},
		{1, 20, 50, 101, 102, 103, 240, 333, 480, 499}, {1, 251, 500}, {1, 100, 250, 400}, {1, 2, 3, 4, 5, 6, 7, 8, 9, 10}, {1, 6, 10, 15},
		{1, 492, 493, 494, 495, 496, 497, 498, 499, 500}, {1, 5, 16, 23, 33}, {1, 2, 10, 13, 15},
	}
}

// invalidCoins are none.
func invalidCoins() [][]int {
	return [][]int{
		nil,
		{},
		// Without a 1.
		{0}, {2}, {500}, {501}, {-1}, {2, 3}, {2, 4, 6}, {3, 5}, {5, 10, 25}, {0, 2}, {math.MinInt}, {math.MaxInt},
		// A 1, but not as the first one.
		{0, 1}, {-1, 1}, {math.MinInt, 1}, {2, 1}, {5, 1}, {3, 1, 4}, {0, 1, 2},
		// Not strictly ascending.
		{1, 1}, {1, 0}, {1, -1}, {1, 3, 2}, {1, 4, 3}, {1, 2, 2}, {1, 5, 5, 10}, {1, 10, 5, 25}, {1, 2, 3, 3}, {1, 2, 3, 1}, {1, math.MinInt}, {1, 500, 2},
		// Greater than 500.
		{1, 501}, {1, 2, 501}, {1, 500, 501}, {1, 501, 502}, {1, 1000}, {1, 1 << 32}, {1, 1<<32 + 2}, {1, 2, math.MaxInt}, {1 << 32}, {1<<32 + 1},
		// More than 10.
		numbersFrom(1, 11), numbersFrom(1, 20), numbersFrom(1, 500), {1, 491, 492, 493, 494, 495, 496, 497, 498, 499, 500}, slices.Repeat([]int{1}, 11),
	}
}

func TestAreCoins(t *testing.T) {
	for _, coins := range validCoins() {
		if !areCoinsByText(coins) || !impl.AreCoins(coins) {
			t.Errorf("AreCoins(%d) = %v", coins, impl.AreCoins(coins))
		}
	}
	for _, coins := range invalidCoins() {
		if areCoinsByText(coins) || impl.AreCoins(coins) {
			t.Errorf("AreCoins(%d) = %v", coins, impl.AreCoins(coins))
		}
	}
	for _, coins := range shortLists([]int{-1, 0, 1, 2, 3, 500, 501}, 4) {
		if got, want := impl.AreCoins(coins), areCoinsByText(coins); got != want {
			t.Errorf("AreCoins(%d) = %v; want %v", coins, got, want)
		}
	}
	for count := 1; count <= 13; count++ {
		if got := impl.AreCoins(numbersFrom(1, count)); got != (count <= 10) {
			t.Errorf("AreCoins of %d coins = %v", count, got)
		}
	}
}

func TestChanges(t *testing.T) {
	cases := []struct {
		coins []int
		n     int
		want  changeFacts
	}{
		{[]int{1, 5, 10, 25}, 41, changeFacts{[]int{1, 1, 1, 1}, []int{1, 1, 1, 1}, 4}},
		{[]int{1, 5, 10, 25}, 99, changeFacts{[]int{4, 0, 2, 3}, []int{4, 0, 2, 3}, 9}},
		{[]int{1, 3, 4}, 7, changeFacts{[]int{0, 1, 1}, []int{0, 1, 1}, 2}},
		// Greed that wastes coins.
		{[]int{1, 3, 4}, 6, changeFacts{[]int{2, 0, 1}, []int{0, 2, 0}, 2}},
		{[]int{1, 10, 25}, 30, changeFacts{[]int{5, 0, 1}, []int{0, 3, 0}, 3}},
		{[]int{1, 5, 8, 10}, 13, changeFacts{[]int{3, 0, 0, 1}, []int{0, 1, 1, 0}, 2}},
		{[]int{1, 499, 500}, 998, changeFacts{[]int{498, 0, 1}, []int{0, 2, 0}, 2}},
		{[]int{1, 499, 500}, 1996, changeFacts{[]int{496, 0, 3}, []int{0, 4, 0}, 4}},
		// The coin 1 alone.
		{[]int{1}, 0, changeFacts{[]int{0}, []int{0}, 0}},
		{[]int{1}, 1, changeFacts{[]int{1}, []int{1}, 1}},
		{[]int{1}, 2000, changeFacts{[]int{2000}, []int{2000}, 2000}},
		{[]int{1}, 2001, noChangeFacts()},
		{[]int{1, 7, 8, 9, 14}, 31, changeFacts{[]int{3, 0, 0, 0, 2}, []int{0, 0, 1, 1, 1}, 3}},
		// Several changes with the fewest coins: 1 and 12, or 5 and 8; 5 and 10, 6
		// and 9, or 7 and 8; 1, 4 and 4, or 3, 3 and 3; 4, 7 and 7, or 6, 6 and 6;
		// 1 and 9, 4 and 6, or 5 and 5.
		{[]int{1, 5, 8, 12}, 13, changeFacts{[]int{1, 0, 0, 1}, []int{1, 0, 0, 1}, 2}},
		{[]int{1, 5, 6, 7, 8, 9, 10}, 15, changeFacts{[]int{0, 1, 0, 0, 0, 0, 1}, []int{0, 1, 0, 0, 0, 0, 1}, 2}},
		{[]int{1, 3, 4}, 9, changeFacts{[]int{1, 0, 2}, []int{1, 0, 2}, 3}},
		{[]int{1, 4, 6, 7}, 18, changeFacts{[]int{0, 1, 0, 2}, []int{0, 1, 0, 2}, 3}},
		{[]int{1, 4, 5, 6, 9}, 10, changeFacts{[]int{1, 0, 0, 0, 1}, []int{1, 0, 0, 0, 1}, 2}},
		// Several ones where greed wastes coins: 4, 6 and 8, 5, 5 and 8, or 6, 6
		// and 6; 11 and 13, or 12 and 12.
		{[]int{1, 4, 5, 6, 8}, 18, changeFacts{[]int{2, 0, 0, 0, 2}, []int{0, 1, 0, 1, 1}, 3}},
		{[]int{1, 5, 11, 12, 13, 20}, 24, changeFacts{[]int{4, 0, 0, 0, 0, 1}, []int{0, 0, 1, 0, 1, 0}, 2}},
		// The amounts 0, 2000 and 2001.
		{[]int{1, 3, 4}, 0, changeFacts{[]int{0, 0, 0}, []int{0, 0, 0}, 0}},
		{[]int{1, 3, 4}, 1, changeFacts{[]int{1, 0, 0}, []int{1, 0, 0}, 1}},
		{[]int{1, 3, 4}, 2000, changeFacts{[]int{0, 0, 500}, []int{0, 0, 500}, 500}},
		{[]int{1, 3, 4}, 2001, noChangeFacts()},
		{[]int{1, 500}, 2000, changeFacts{[]int{0, 4}, []int{0, 4}, 4}},
		{[]int{1, 500}, 1999, changeFacts{[]int{499, 3}, []int{499, 3}, 502}},
		{[]int{1, 500}, 2001, noChangeFacts()},
		// Below zero and the extremes.
		{[]int{1, 3, 4}, -1, noChangeFacts()},
		{[]int{1, 3, 4}, -6, noChangeFacts()},
		{[]int{1, 3, 4}, math.MinInt, noChangeFacts()},
		{[]int{1, 3, 4}, math.MaxInt, noChangeFacts()},
		{[]int{1, 3, 4}, 1 << 32, noChangeFacts()},
		{[]int{1, 3, 4}, 1<<32 + 6, noChangeFacts()},
		{[]int{1}, -1, noChangeFacts()},
		// 10 coins and 11, and the coins 500 and 501.
		{numbersFrom(1, 10), 29, changeFacts{[]int{0, 0, 0, 0, 0, 0, 0, 0, 1, 2}, []int{0, 0, 0, 0, 0, 0, 0, 0, 1, 2}, 3}},
		{numbersFrom(1, 11), 29, noChangeFacts()},
		{[]int{1, 500}, 1000, changeFacts{[]int{0, 2}, []int{0, 2}, 2}},
		{[]int{1, 501}, 1002, noChangeFacts()},
		// No coins.
		{nil, 0, noChangeFacts()},
		{nil, 5, noChangeFacts()},
		{[]int{2}, 4, noChangeFacts()},
		{[]int{2}, 0, noChangeFacts()},
		{[]int{0, 1}, 4, noChangeFacts()},
		{[]int{1, 1}, 4, noChangeFacts()},
		{[]int{1, 4, 3}, 6, noChangeFacts()},
	}
	for _, c := range cases {
		if c.want.fewest >= 0 {
			if best := bestChangesByText(c.coins, c.n)[c.n]; !slices.Equal(best, c.want.best) || !slices.Equal(greedyByText(c.coins, c.n), c.want.greedy) || totalOf(best) != c.want.fewest {
				t.Errorf("the test itself is wrong: %d with %d: %d", c.n, c.coins, best)
			}
		}
		if got := changeFactsOf(c.coins, c.n); !got.equals(c.want) {
			t.Errorf("the changes of %d with %d are %v; want %v", c.n, c.coins, got, c.want)
		}
	}
}

func TestChangesWithSomeCoins(t *testing.T) {
	count := map[bool]int{}
	for _, coins := range validCoins() {
		amounts := append(numbersFrom(0, 60), 97, 100, 330, 499, 500, 501, 742, 990, 997, 998, 999, 1000, 1001, 1499, 1501, 1998, 1999, 2000)
		_, wastes := compareCoins(t, coins, amounts)
		count[wastes]++
	}
	if count[true] < 8 || count[false] < 8 {
		t.Errorf("the test itself is wrong: %v", count)
	}
}

// TestChangesWithAllCoins takes all coins up to 9.
func TestChangesWithAllCoins(t *testing.T) {
	count := map[bool]int{}
	for set := range 1 << 8 {
		coins := []int{1}
		for coin := 2; coin <= 9; coin++ {
			if set>>(coin-2)&1 == 1 {
				coins = append(coins, coin)
			}
		}
		_, wastes := compareCoins(t, coins, numbersFrom(0, 24))
		count[wastes]++
	}
	if count[true] < 50 || count[false] < 50 {
		t.Errorf("the test itself is wrong: %v", count)
	}
}

// TestBestOfAllChanges takes all changes and keeps the best one. There must be
// amounts for which several have the fewest coins, also where greed wastes some.
func TestBestOfAllChanges(t *testing.T) {
	several, wasted := 0, 0
	for _, coins := range [][]int{{1, 3, 4}, {1, 5, 8, 12}, {1, 3, 5, 7}, {1, 4, 6, 9}, {1, 4, 5, 6, 8}, {1, 2, 3, 4, 5}, {1, 7, 8, 9, 14}, {1, 7, 10}} {
		for n := 0; n <= 45; n++ {
			all := allChanges(coins, n)
			slices.SortFunc(all, func(a, b []int) int {
				if comesFirst(a, b) {
					return -1
				}
				return 1
			})
			got := changeFactsOf(coins, n)
			if !slices.Equal(got.best, all[0]) || got.fewest != totalOf(all[0]) {
				t.Fatalf("BestChange(%d, %d) = %d, and FewestCoins = %d; want %d", coins, n, got.best, got.fewest, all[0])
			}
			if len(all) > 1 && totalOf(all[1]) == got.fewest {
				several++
				if totalOf(got.greedy) > got.fewest {
					wasted++
				}
			}
		}
	}
	if several < 50 || wasted < 5 {
		t.Errorf("the test itself is wrong: %d amounts with several best changes, %d of which greed wastes", several, wasted)
	}
}

func TestFirstWaste(t *testing.T) {
	cases := []struct {
		coins  []int
		waste  int
		wastes bool
	}{
		// Greed that wastes coins.
		{[]int{1, 3, 4}, 6, true},
		{[]int{1, 10, 25}, 30, true},
		{[]int{1, 5, 8, 10}, 13, true},
		{[]int{1, 7, 10}, 14, true},
		{[]int{1, 4, 6, 9}, 8, true},
		{[]int{1, 6, 10, 15}, 12, true},
		{[]int{1, 3, 6, 12, 24, 30}, 48, true},
		// As great as possible: just below the sum of the two greatest coins.
		{[]int{1, 499, 500}, 998, true},
		{[]int{1, 249, 250}, 498, true},
		{[]int{1, 2, 499, 500}, 998, true},
		// Orderly coins.
		{[]int{1}, 0, false},
		{[]int{1, 2}, 0, false},
		{[]int{1, 500}, 0, false},
		{[]int{1, 5, 10, 25}, 0, false},
		{[]int{1, 2, 5, 10, 20, 50, 100, 200}, 0, false},
		{[]int{1, 2, 4, 8, 16, 32, 64, 128, 256}, 0, false},
		{numbersFrom(1, 10), 0, false},
		// No coins.
		{nil, 0, false},
		{[]int{}, 0, false},
		{[]int{2}, 0, false},
		{[]int{3, 4}, 0, false},
		{[]int{1, 4, 3}, 0, false},
		{[]int{1, 1}, 0, false},
		{[]int{1, 500, 501}, 0, false},
		{[]int{0, 1, 3, 4}, 0, false},
		{numbersFrom(1, 11), 0, false},
		{[]int{1, 3, 4, math.MaxInt}, 0, false},
		{[]int{math.MinInt, 1, 3, 4}, 0, false},
	}
	for _, c := range cases {
		waste, wastes := impl.FirstWaste(c.coins)
		if waste != c.waste || wastes != c.wastes || impl.IsOrderly(c.coins) != (areCoinsByText(c.coins) && !c.wastes) {
			t.Errorf("FirstWaste(%d) = %d, %v, and IsOrderly is %v; want %d, %v", c.coins, waste, wastes, impl.IsOrderly(c.coins), c.waste, c.wastes)
		}
	}
}

// TestOrderlyExactlyIfNothingIsWasted states the promise in terms of the
// functions themselves, for amounts up to four times the greatest coin.
func TestOrderlyExactlyIfNothingIsWasted(t *testing.T) {
	count := map[bool]int{}
	for a := 2; a <= 14; a++ {
		for b := a + 1; b <= 30; b++ {
			coins := []int{1, a, b}
			wasted := -1
			for n := 0; n <= 4*b && wasted < 0; n++ {
				if totalOf(impl.GreedyChange(coins, n)) > impl.FewestCoins(coins, n) {
					wasted = n
				}
			}
			waste, wastes := impl.FirstWaste(coins)
			if wastes != (wasted >= 0) || waste != max(0, wasted) || impl.IsOrderly(coins) == wastes || wastes && waste >= a+b {
				t.Fatalf("FirstWaste(%d) = %d, %v, and IsOrderly is %v, but greed wastes coins at %d", coins, waste, wastes, impl.IsOrderly(coins), wasted)
			}
			count[wastes]++
		}
	}
	if count[true] < 50 || count[false] < 50 {
		t.Errorf("the test itself is wrong: %v", count)
	}
}

func TestChangesWithNoCoins(t *testing.T) {
	for _, coins := range invalidCoins() {
		for _, n := range []int{math.MinInt, -1, 0, 1, 6, 1000, 2000, 2001, math.MaxInt} {
			if got := changeFactsOf(coins, n); !got.equals(noChangeFacts()) {
				t.Errorf("the changes of %d with %d, which are no coins, are %v", n, coins, got)
			}
		}
		if n, ok := impl.FirstWaste(coins); n != 0 || ok || impl.IsOrderly(coins) {
			t.Errorf("FirstWaste(%d), of no coins, = %d, %v, and IsOrderly is %v", coins, n, ok, impl.IsOrderly(coins))
		}
	}
}

func TestChangesOfNumbersBeyondTheLimits(t *testing.T) {
	for _, coins := range validCoins() {
		for _, n := range []int{math.MinInt, math.MinInt + 1, -1 << 32, -2000, -2, -1, 2001, 2002, 4000, 1 << 32, 1<<32 + 6, math.MaxInt - 1, math.MaxInt} {
			if got := changeFactsOf(coins, n); !got.equals(noChangeFacts()) {
				t.Errorf("the changes of %d with %d are %v", n, coins, got)
			}
		}
	}
}

// coinCalls take the coins as the Gens of a Semigroup.
func coinCalls() map[string]func(s impl.Semigroup) []int {
	return map[string]func(s impl.Semigroup) []int{
		"AreCoins":              func(s impl.Semigroup) []int { impl.AreCoins(s.Gens); return nil },
		"GreedyChange of 13":    func(s impl.Semigroup) []int { return impl.GreedyChange(s.Gens, 13) },
		"GreedyChange of 0":     func(s impl.Semigroup) []int { return impl.GreedyChange(s.Gens, 0) },
		"GreedyChange of 2001":  func(s impl.Semigroup) []int { return impl.GreedyChange(s.Gens, 2001) },
		"FewestCoins":           func(s impl.Semigroup) []int { impl.FewestCoins(s.Gens, 31); return nil },
		"BestChange of 13":      func(s impl.Semigroup) []int { return impl.BestChange(s.Gens, 13) },
		"BestChange of 0":       func(s impl.Semigroup) []int { return impl.BestChange(s.Gens, 0) },
		"BestChange of 998":     func(s impl.Semigroup) []int { return impl.BestChange(s.Gens, 998) },
		"BestChange of minus 1": func(s impl.Semigroup) []int { return impl.BestChange(s.Gens, -1) },
		"FirstWaste":            func(s impl.Semigroup) []int { impl.FirstWaste(s.Gens); return nil },
		"IsOrderly":             func(s impl.Semigroup) []int { impl.IsOrderly(s.Gens); return nil },
	}
}

func TestCoinCallsLeaveTheCoins(t *testing.T) {
	checkCallsLeaveGens(t, coinCalls(), append(validCoins(), invalidCoins()...))
}

func TestCoinResultsAreNewMemory(t *testing.T) {
	checkCallsGiveNewMemory(t, coinCalls(), validCoins())
}
