package tests

import (
	"slices"
	"testing"

	"loop.example/g00595/impl"
)

// Promise 18: a number is in the common part exactly if it is in both.

func isWithinByText(a []int, b []int) bool {
	if !isSemigroupByText(a) || !isSemigroupByText(b) {
		return false
	}
	inB := searchedSums(b, 400)
	return !slices.ContainsFunc(elementsByText(a, 400), func(n int) bool { return !inB[n] })
}

func meetByText(a []int, b []int) ([]int, bool) {
	if !isSemigroupByText(a) || !isSemigroupByText(b) {
		return nil, false
	}
	inA, inB := searchedSums(a, 400), searchedSums(b, 400)
	return fromGapsByText(gapsByText(func(n int) bool { return inA[n] && inB[n] }))
}

// addByText adds elements to elements. The Gens are counted as they are: one
// that both have counts twice.
func addByText(a []int, b []int) ([]int, bool) {
	if !isSemigroupByText(a) || !isSemigroupByText(b) || len(a)+len(b) > 20 {
		return nil, false
	}
	sums := make([]bool, 601)
	for _, x := range elementsByText(a, 300) {
		for _, y := range elementsByText(b, 300) {
			sums[x+y] = true
		}
	}
	return fromGapsByText(gapsByText(func(n int) bool { return sums[n] }))
}

// combination is what chapter 18 says of two semigroups.
type combination struct {
	within      bool
	meet        []int
	meetOK      bool
	sum         []int
	sumOK       bool
	otherWithin bool
}

func combinationByText(a []int, b []int) combination {
	var c combination
	c.within, c.otherWithin = isWithinByText(a, b), isWithinByText(b, a)
	c.meet, c.meetOK = meetByText(a, b)
	c.sum, c.sumOK = addByText(a, b)
	return c
}

func combinationOf(a []int, b []int) combination {
	x, y := impl.Semigroup{Gens: a}, impl.Semigroup{Gens: b}
	var c combination
	c.within, c.otherWithin = impl.IsWithin(x, y), impl.IsWithin(y, x)
	meet, meetOK := impl.MeetOf(x, y)
	sum, sumOK := impl.AddOf(x, y)
	c.meet, c.meetOK, c.sum, c.sumOK = meet.Gens, meetOK, sum.Gens, sumOK
	return c
}

func (c combination) equals(d combination) bool {
	return c.within == d.within && c.otherWithin == d.otherWithin && c.meetOK == d.meetOK && c.sumOK == d.sumOK &&
		slices.Equal(c.meet, d.meet) && slices.Equal(c.sum, d.sum)
}

// exchanged is the combination of the same semigroups in the other order.
func (c combination) exchanged() combination {
	c.within, c.otherWithin = c.otherWithin, c.within
	return c
}

// compareCombined looks at all functions of chapter 18 for two lists, in both
// orders, and at what the results have to do with their elements.
func compareCombined(t *testing.T, a []int, b []int) combination {
	t.Helper()
	got, want := combinationOf(a, b), combinationByText(a, b)
	if !got.equals(want) {
		t.Fatalf("of %d and %d, the order, the common part and the sum are %v; want %v", a, b, got, want)
	}
	if back := combinationOf(b, a); !back.equals(got.exchanged()) {
		t.Fatalf("of %d and %d, the order, the common part and the sum are %v; but in the other order %v", a, b, got, back)
	}
	x, y := impl.Semigroup{Gens: a}, impl.Semigroup{Gens: b}
	meet, sum := impl.Semigroup{Gens: got.meet}, impl.Semigroup{Gens: got.sum}
	for n := -2; got.meetOK && n <= 260; n++ {
		if impl.Contains(meet, n) != (impl.Contains(x, n) && impl.Contains(y, n)) {
			t.Fatalf("MeetOf(%d, %d) = %d, but of %d they do not agree", a, b, got.meet, n)
		}
	}
	if got.meetOK && (!impl.IsWithin(meet, x) || !impl.IsWithin(meet, y)) {
		t.Fatalf("MeetOf(%d, %d) = %d, which is not within both", a, b, got.meet)
	}
	if got.sumOK && (!impl.IsWithin(x, sum) || !impl.IsWithin(y, sum)) {
		t.Fatalf("AddOf(%d, %d) = %d, within which are not both", a, b, got.sum)
	}
	return got
}

// allFrom returns the Gens of 0 and all numbers from n on.
func allFrom(n int) []int { return numbersFrom(n, 2*n-1) }

func TestCombinedSemigroups(t *testing.T) {
	cases := []struct {
		a, b []int
		want combination
	}{
		// Equal ones.
		{[]int{3, 5}, []int{3, 5}, combination{true, []int{3, 5}, true, []int{3, 5}, true, true}},
		{[]int{6, 9, 20}, []int{6, 9, 20}, combination{true, []int{6, 9, 20}, true, []int{6, 9, 20}, true, true}},
		{[]int{5, 51}, []int{5, 51}, combination{true, []int{5, 51}, true, []int{5, 51}, true, true}},
		{allFrom(10), allFrom(10), combination{true, allFrom(10), true, allFrom(10), true, true}},
		// One within the other.
		{[]int{4, 6, 9}, []int{2, 3}, combination{true, []int{4, 6, 9}, true, []int{2, 3}, true, false}},
		{[]int{2, 3}, []int{4, 6, 9}, combination{false, []int{4, 6, 9}, true, []int{2, 3}, true, true}},
		{[]int{6, 9, 20}, []int{3, 5}, combination{true, []int{6, 9, 20}, true, []int{3, 5}, true, false}},
		{[]int{3, 5}, []int{3, 5, 7}, combination{true, []int{3, 5}, true, []int{3, 5, 7}, true, false}},
		{[]int{3, 5}, []int{3, 4, 5}, combination{true, []int{3, 5}, true, []int{3, 4, 5}, true, false}},
		{[]int{5, 51}, []int{5, 6, 7, 8, 9}, combination{true, []int{5, 51}, true, []int{5, 6, 7, 8, 9}, true, false}},
		// Neither within the other.
		{[]int{2, 5}, []int{3, 4}, combination{false, []int{4, 6, 7, 9}, true, []int{2, 3}, true, false}},
		{[]int{4, 6, 9}, []int{5, 7}, combination{false, []int{10, 12, 14, 15, 17, 19, 21}, true, []int{4, 5, 6, 7}, true, false}},
		{[]int{3, 5}, []int{4, 6, 9}, combination{false, []int{6, 8, 9, 10, 13}, true, []int{3, 4, 5}, true, false}},
		{[]int{2, 59}, []int{3, 59}, combination{false, nil, false, []int{2, 3}, true, false}},
		{[]int{7, 34}, []int{9, 26}, combination{false, nil, false, []int{7, 9, 26}, true, false}},
		// The semigroup without gaps.
		{[]int{1}, []int{1}, combination{true, []int{1}, true, []int{1}, true, true}},
		{[]int{1}, []int{3, 5}, combination{false, []int{3, 5}, true, []int{1}, true, true}},
		{[]int{3, 5}, []int{1}, combination{true, []int{3, 5}, true, []int{1}, true, false}},
		{[]int{1}, []int{5, 51}, combination{false, []int{5, 51}, true, []int{1}, true, true}},
		{allFrom(12), []int{1}, combination{true, allFrom(12), true, []int{1}, true, false}},
		// Common parts with 12 Gens, and with 13.
		{allFrom(11), []int{9, 12, 13, 14, 15, 16, 17, 19, 20}, combination{false, allFrom(12), true, []int{9, 11, 12, 13, 14, 15, 16, 17, 19}, true, false}},
		{allFrom(12), []int{9, 13, 14, 15, 16, 17, 19, 20, 21}, combination{false, nil, false, nil, false, false}},
		{allFrom(11), []int{9, 13, 14, 15, 16, 17, 19, 20, 21}, combination{false, nil, false, []int{9, 11, 12, 13, 14, 15, 16, 17, 19}, true, false}},
		// Common parts with a generator of 60, and with greater ones.
		{[]int{3, 13}, []int{9, 20}, combination{false, []int{9, 29, 40, 60}, true, []int{3, 13, 20}, true, false}},
		{[]int{10, 19}, []int{12, 19}, combination{false, []int{19, 48, 50, 60}, true, []int{10, 12, 19}, true, false}},
		{[]int{3, 23}, []int{7, 18}, combination{false, nil, false, []int{3, 7}, true, false}},
		{[]int{3, 20}, []int{5, 14}, combination{false, nil, false, []int{3, 5}, true, false}},
		{[]int{3, 17}, []int{3, 31}, combination{false, nil, false, []int{3, 17, 31}, true, false}},
		// 20 and 21 Gens together.
		{allFrom(12), allFrom(8), combination{true, allFrom(12), true, allFrom(8), true, false}},
		{allFrom(12), allFrom(9), combination{true, allFrom(12), true, nil, false, false}},
		{allFrom(11), allFrom(9), combination{true, allFrom(11), true, allFrom(9), true, false}},
		{allFrom(11), allFrom(10), combination{true, allFrom(11), true, nil, false, false}},
		{allFrom(11), allFrom(11), combination{true, allFrom(11), true, nil, false, true}},
		{allFrom(12), allFrom(12), combination{true, allFrom(12), true, nil, false, true}},
		// Gens that both have.
		{[]int{3, 5}, []int{3, 7, 8}, combination{false, []int{3, 8, 10}, true, []int{3, 5, 7}, true, false}},
		{[]int{5, 7, 9, 11}, []int{5, 6, 7, 9}, combination{true, []int{5, 7, 9, 11}, true, []int{5, 6, 7, 9}, true, false}},
		{[]int{4, 5, 7}, []int{4, 6, 7, 9}, combination{false, []int{4, 7, 9, 10}, true, []int{4, 5, 6, 7}, true, false}},
		// No semigroup.
		{nil, nil, combination{}},
		{nil, []int{1}, combination{}},
		{[]int{1}, nil, combination{}},
		{[]int{3, 5}, []int{2}, combination{}},
		{[]int{2}, []int{3, 5}, combination{}},
		{[]int{2}, []int{3}, combination{}},
		{[]int{2}, []int{2}, combination{}},
		{[]int{5, 3}, []int{3, 5}, combination{}},
		{[]int{3, 5}, []int{3, 5, 8}, combination{}},
		{[]int{3, 61}, []int{3, 5}, combination{}},
	}
	for _, c := range cases {
		if byText := combinationByText(c.a, c.b); !byText.equals(c.want) {
			t.Errorf("the test itself is wrong: %d, %d: %v; not %v", c.a, c.b, byText, c.want)
		}
		if got := combinationOf(c.a, c.b); !got.equals(c.want) {
			t.Errorf("of %d and %d, the order, the common part and the sum are %v; want %v", c.a, c.b, got, c.want)
		}
		compareCombined(t, c.a, c.b)
	}
}

// wideSums have at most 20 Gens together, and a sum with just 12 of them, with
// 13 or with more.
func wideSums() []struct{ a, b, sum []int } {
	return []struct{ a, b, sum []int }{
		{numbersFrom(20, 25), numbersFrom(26, 31), numbersFrom(20, 31)},
		{numbersFrom(20, 25), numbersFrom(26, 32), nil},
		{numbersFrom(20, 29), append([]int{20}, numbersFrom(30, 38)...), nil},
		{numbersFrom(20, 29), numbersFrom(30, 39), nil},
		{numbersFrom(20, 29), append(numbersFrom(20, 28), 30), numbersFrom(20, 30)},
	}
}

func TestSumsWithManyGens(t *testing.T) {
	for _, c := range wideSums() {
		if !isSemigroupByText(c.a) || !isSemigroupByText(c.b) || len(c.a)+len(c.b) > 20 {
			t.Errorf("the test itself is wrong: %d, %d", c.a, c.b)
		}
		if got := compareCombined(t, c.a, c.b); !slices.Equal(got.sum, c.sum) || got.sumOK != (len(c.sum) > 0) {
			t.Errorf("AddOf(%d, %d) = %d, %v; want %d", c.a, c.b, got.sum, got.sumOK, c.sum)
		}
	}
}

// TestCombinedPairs takes all pairs of some semigroups and of what is none.
func TestCombinedPairs(t *testing.T) {
	count := map[string]int{}
	lists := append(factoredSemigroups(), allFrom(10), []int{9, 13, 14, 15, 16, 17, 19, 20, 21}, nil, []int{2}, []int{5, 3}, []int{3, 5, 8}, []int{2, 61})
	for i, a := range lists {
		for _, b := range lists[i:] {
			c := compareCombined(t, a, b)
			switch {
			case !isSemigroupByText(a) || !isSemigroupByText(b):
				count["none"]++
			case c.within || c.otherWithin:
				count["within"]++
			case !c.meetOK:
				count["too large"]++
			default:
				count["meet"]++
			}
			if !c.sumOK {
				count["no sum"]++
			}
		}
	}
	for _, name := range []string{"none", "within", "too large", "meet", "no sum"} {
		if count[name] < 20 {
			t.Errorf("the test itself is wrong: only %d pairs of the kind %q", count[name], name)
		}
	}
}

// TestCombinedSubsets takes all pairs of semigroups with Gens up to 7.
func TestCombinedSubsets(t *testing.T) {
	var lists [][]int
	for set := range 1 << 7 {
		var list []int
		for g := 1; g <= 7; g++ {
			if set>>(g-1)&1 == 1 {
				list = append(list, g)
			}
		}
		if isSemigroupByText(list) {
			lists = append(lists, list)
		}
	}
	for _, a := range lists {
		for _, b := range lists {
			compareCombined(t, a, b)
		}
	}
}

// TestCombinedPairsOfNumbers has many common parts with generators around 60.
func TestCombinedPairsOfNumbers(t *testing.T) {
	greatest := map[int]int{}
	for a := 2; a <= 9; a++ {
		for b := a + 1; b <= 26; b += 3 {
			for c := 3; c <= 9; c += 2 {
				for d := c + 1; d <= 30; d += 4 {
					x, y := []int{a, b}, []int{c, d}
					if !isSemigroupByText(x) || !isSemigroupByText(y) {
						continue
					}
					got := compareCombined(t, x, y)
					if got.meetOK {
						greatest[slices.Max(got.meet)]++
					} else {
						greatest[61]++
					}
				}
			}
		}
	}
	if greatest[61] < 20 || greatest[60]+greatest[59]+greatest[58] < 3 {
		t.Errorf("the test itself is wrong: %v", greatest)
	}
}

// TestOrderOfSemigroups: one is within another exactly if the common part is
// the one, and exactly if the sum is the other.
func TestOrderOfSemigroups(t *testing.T) {
	for _, a := range someSemigroups() {
		for _, b := range someSemigroups() {
			x, y := impl.Semigroup{Gens: a}, impl.Semigroup{Gens: b}
			within := impl.IsWithin(x, y)
			if meet, ok := impl.MeetOf(x, y); within != (ok && impl.EqualSemigroup(meet, x)) {
				t.Fatalf("IsWithin(%d, %d) is %v, but MeetOf them is %d", a, b, within, meet.Gens)
			}
			if sum, ok := impl.AddOf(x, y); len(a)+len(b) <= 20 && within != (ok && impl.EqualSemigroup(sum, y)) {
				t.Fatalf("IsWithin(%d, %d) is %v, but AddOf them is %d", a, b, within, sum.Gens)
			}
		}
	}
}

// TestCombinedNoSemigroups takes what is no semigroup as the first argument, as
// the second one and as both.
func TestCombinedNoSemigroups(t *testing.T) {
	for _, gens := range append(invalidGens(), []int{48, 60}, []int{1, 1}) {
		for _, good := range append(validGens(), gens) {
			if got := combinationOf(gens, good); !got.equals(combination{}) {
				t.Errorf("of %d, which is no semigroup, and %d, the order, the common part and the sum are %v", gens, good, got)
			}
			if got := combinationOf(good, gens); !got.equals(combination{}) {
				t.Errorf("of %d and %d, which is no semigroup, the order, the common part and the sum are %v", good, gens, got)
			}
		}
	}
}

func combinedCalls() map[string]func(a impl.Semigroup, b impl.Semigroup) []int {
	return map[string]func(a impl.Semigroup, b impl.Semigroup) []int{
		"IsWithin": func(a impl.Semigroup, b impl.Semigroup) []int { impl.IsWithin(a, b); return nil },
		"MeetOf": func(a impl.Semigroup, b impl.Semigroup) []int {
			meet, _ := impl.MeetOf(a, b)
			return meet.Gens
		},
		"AddOf": func(a impl.Semigroup, b impl.Semigroup) []int {
			sum, _ := impl.AddOf(a, b)
			return sum.Gens
		},
	}
}

func TestCombinedCallsLeaveTheirArguments(t *testing.T) {
	lists := append(validGens(), invalidGens()...)
	for name, call := range combinedCalls() {
		for _, a := range lists {
			for _, b := range lists {
				x, y := guard(a), guard(b)
				call(impl.Semigroup{Gens: x.list}, impl.Semigroup{Gens: y.list})
				x.check(t, name, a)
				y.check(t, name, b)
			}
		}
	}
}

func TestCombinedResultsAreNewMemory(t *testing.T) {
	for name, call := range combinedCalls() {
		for _, a := range someSemigroups() {
			for _, b := range append(validGens(), a) {
				y := guard(b)
				checkNewMemory(t, name, a, func(s impl.Semigroup) []int { return call(s, impl.Semigroup{Gens: y.list}) })
				y.check(t, name+", or a change of its result,", b)
				x := guard(a)
				got := call(impl.Semigroup{Gens: x.list}, impl.Semigroup{Gens: y.list})
				want := slices.Clone(got)
				scribble(x.whole)
				scribble(y.whole)
				if !slices.Equal(got, want) {
					t.Errorf("%s of %d and %d gives %d after both were changed; want %d", name, a, b, got, want)
				}
			}
		}
	}
}

// TestCombinedWithItself passes one list as both arguments.
func TestCombinedWithItself(t *testing.T) {
	for name, call := range combinedCalls() {
		for _, gens := range validGens() {
			g := guard(gens)
			s := impl.Semigroup{Gens: g.list}
			got := call(s, s)
			want := gens
			if name == "IsWithin" || name == "AddOf" && 2*len(gens) > 20 {
				want = nil
			}
			g.check(t, name, gens)
			if !slices.Equal(got, want) {
				t.Errorf("%s of %d and itself = %d", name, gens, got)
			}
			scribble(got)
			g.check(t, "a change of the result of "+name, gens)
		}
	}
}
