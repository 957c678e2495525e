package tests

import (
	"cmp"
	"math"
	"runtime"
	"slices"
	"sync"
	"testing"
	"time"

	"loop.example/g00595/impl"
)

// Promise 19: a generator that was removed can be added again.

// known is a semigroup with its gaps.
type known struct{ gens, gaps []int }

// knownByGenus are all semigroups with the genus 0 to 9, each genus in the order
// of the gaps, found without a look at the program. No gap is greater than twice
// the genus minus 1: of each two numbers with this sum, one is a gap.
var knownByGenus = sync.OnceValue(func() [][]known {
	byGenus := make([][]known, 10)
	for genus := range byGenus {
		for _, gaps := range listsOf(numbersFrom(1, 2*genus-1), genus) {
			if gens, ok := fromGapsByText(gaps); ok {
				byGenus[genus] = append(byGenus[genus], known{gens, gaps})
			}
		}
	}
	return byGenus
})

// listsOf returns the ascending lists of count of the numbers, of which no one
// is a sum of two positive numbers that are not in it, in order.
func listsOf(numbers []int, count int) [][]int {
	var lists [][]int
	var choose func(list []int, from int)
	choose = func(list []int, from int) {
		if len(list) == count {
			if _, clashes := gapClashByText(list); !clashes {
				lists = append(lists, slices.Clone(list))
			}
			return
		}
		for i := from; i < len(numbers); i++ {
			choose(append(slices.Clone(list), numbers[i]), i+1)
		}
	}
	choose(nil, 0)
	return lists
}

// smallSemigroups are the Gens of all semigroups with a genus from 0 to most.
func smallSemigroups(most int) [][]int {
	var lists [][]int
	for _, group := range knownByGenus()[:most+1] {
		for _, k := range group {
			lists = append(lists, k.gens)
		}
	}
	return lists
}

func addGapByText(gens []int, x int) ([]int, bool) {
	if !slices.Contains(symmetryFactsByText(gens).special, x) {
		return nil, false
	}
	isElement := searchedSums(gens, 400)
	return fromGapsByText(gapsByText(func(n int) bool { return isElement[n] || n == x }))
}

func removeByText(gens []int, x int) ([]int, bool) {
	if !isSemigroupByText(gens) || !slices.Contains(gens, x) {
		return nil, false
	}
	isElement := searchedSums(gens, 400)
	return fromGapsByText(gapsByText(func(n int) bool { return isElement[n] && n != x }))
}

// neededWithout returns the numbers of a semigroup without x that are no sums of
// others, also if they are too many or too great, and the greatest number that
// it has not.
func neededWithout(gens []int, x int) ([]int, int) {
	isElement := searchedSums(gens, 500)
	isElement[x] = false
	var needed []int
	greatest := -1
	for n := 1; n <= 500; n++ {
		if !isElement[n] {
			greatest = n
			continue
		}
		isSum := false
		for a := 1; a < n; a++ {
			isSum = isSum || isElement[a] && isElement[n-a]
		}
		if !isSum {
			needed = append(needed, n)
		}
	}
	return needed, greatest
}

// largerByText takes those of all semigroups that have no gap that the
// semigroup has not.
func largerByText(gens []int) ([][]int, bool) {
	if !isSemigroupByText(gens) {
		return nil, false
	}
	gaps := gapFactsByText(gens).gaps
	if len(gaps) > 9 {
		return nil, false
	}
	var lists [][]int
	for _, group := range knownByGenus()[:len(gaps)+1] {
		for _, k := range group {
			if !slices.ContainsFunc(k.gaps, func(n int) bool { return !slices.Contains(gaps, n) }) {
				lists = append(lists, k.gens)
			}
		}
	}
	return lists, true
}

// gensOf returns the Gens of each one.
func gensOf(list []impl.Semigroup) [][]int {
	var lists [][]int
	for _, s := range list {
		lists = append(lists, s.Gens)
	}
	return lists
}

// TestKnownSemigroups looks at the test's own search: these are the numbers of
// semigroups of each genus.
func TestKnownSemigroups(t *testing.T) {
	for genus, want := range []int{1, 1, 2, 4, 7, 12, 23, 39, 67, 118} {
		if got := len(knownByGenus()[genus]); got != want {
			t.Errorf("the test itself is wrong: %d semigroups of genus %d", got, genus)
		}
	}
}

func compareAddGap(t *testing.T, gens []int, x int) bool {
	t.Helper()
	got, ok := impl.AddGap(impl.Semigroup{Gens: gens}, x)
	want, wantOK := addGapByText(gens, x)
	if !slices.Equal(got.Gens, want) || ok != wantOK {
		t.Fatalf("AddGap(%d, %d) = %d, %v; want %d, %v", gens, x, got.Gens, ok, want, wantOK)
	}
	return ok
}

func compareRemove(t *testing.T, gens []int, x int) bool {
	t.Helper()
	got, ok := impl.RemoveGenerator(impl.Semigroup{Gens: gens}, x)
	want, wantOK := removeByText(gens, x)
	if !slices.Equal(got.Gens, want) || ok != wantOK {
		t.Fatalf("RemoveGenerator(%d, %d) = %d, %v; want %d, %v", gens, x, got.Gens, ok, want, wantOK)
	}
	return ok
}

// changeCase is a semigroup, a number and the Gens of the result, if any.
type changeCase struct {
	gens []int
	x    int
	want []int
}

func TestAddGap(t *testing.T) {
	cases := []changeCase{
		// Each of SpecialGaps.
		{[]int{2, 3}, 1, []int{1}},
		{[]int{2, 5}, 3, []int{2, 3}},
		{[]int{3, 4, 5}, 2, []int{2, 3}},
		{[]int{3, 5}, 7, []int{3, 5, 7}},
		{[]int{3, 5, 7}, 4, []int{3, 4, 5}},
		{[]int{3, 7, 8}, 5, []int{3, 5, 7}},
		{[]int{4, 5, 6, 7}, 2, []int{2, 5}},
		{[]int{4, 5, 6, 7}, 3, []int{3, 4, 5}},
		{[]int{4, 6, 9}, 11, []int{4, 6, 9, 11}},
		{[]int{6, 9, 20}, 43, []int{6, 9, 20, 43}},
		{[]int{2, 59}, 57, []int{2, 57}},
		{allFrom(12), 11, allFrom(11)},
		{allFrom(12), 6, []int{6, 13, 14, 15, 16, 17}},
		// Gaps that cannot be added, some of them with sums that are all elements but for the double.
		{[]int{3, 5}, 1, nil},
		{[]int{3, 5}, 2, nil},
		{[]int{3, 5}, 4, nil},
		{[]int{3, 5, 7}, 1, nil},
		{[]int{3, 5, 7}, 2, nil},
		{[]int{4, 5, 6, 7}, 1, nil},
		{[]int{3, 4, 5}, 1, nil},
		{[]int{4, 6, 9}, 7, nil},
		{allFrom(12), 5, nil},
		{allFrom(12), 1, nil},
		// Elements, and numbers that are no gaps.
		{[]int{3, 5}, 0, nil},
		{[]int{3, 5}, 3, nil},
		{[]int{3, 5}, 5, nil},
		{[]int{3, 5}, 6, nil},
		{[]int{3, 5}, 8, nil},
		{[]int{3, 5}, 200, nil},
		{[]int{3, 5}, 201, nil},
		{[]int{3, 5}, -1, nil},
		{[]int{3, 5}, -7, nil},
		{[]int{3, 5}, 1<<32 + 7, nil},
		{[]int{3, 5}, math.MinInt, nil},
		{[]int{3, 5}, math.MaxInt, nil},
		// The semigroup without gaps.
		{[]int{1}, -1, nil},
		{[]int{1}, 0, nil},
		{[]int{1}, 1, nil},
		{[]int{1}, 2, nil},
		{[]int{1}, math.MinInt, nil},
		{[]int{1}, math.MaxInt, nil},
		// Results with 12 Gens, and with 13.
		{numbersFrom(20, 30), 39, append(numbersFrom(20, 30), 39)},
		{numbersFrom(20, 30), 31, numbersFrom(20, 31)},
		{numbersFrom(20, 31), 32, nil},
		{numbersFrom(20, 31), 39, nil},
		// Results with a generator of 59, of 60 and of 61, and with greater ones.
		{[]int{3, 31}, 59, []int{3, 31, 59}},
		{[]int{7, 17, 33}, 60, []int{7, 17, 33, 60}},
		{[]int{3, 32}, 61, nil},
		{[]int{4, 6, 59}, 61, nil},
		{[]int{3, 59}, 115, nil},
		{[]int{5, 51}, 199, nil},
		{[]int{9, 26}, 199, nil},
		// No semigroup.
		{nil, 1, nil},
		{nil, -1, nil},
		{[]int{2}, 1, nil},
		{[]int{5, 3}, 7, nil},
		{[]int{3, 5, 8}, 7, nil},
		{[]int{2, 61}, 59, nil},
	}
	for _, c := range cases {
		if byText, ok := addGapByText(c.gens, c.x); !slices.Equal(byText, c.want) || ok != (len(c.want) > 0) {
			t.Errorf("the test itself is wrong: %d, %d: %d", c.gens, c.x, byText)
		}
		if got, ok := impl.AddGap(impl.Semigroup{Gens: c.gens}, c.x); !slices.Equal(got.Gens, c.want) || ok != (len(c.want) > 0) {
			t.Errorf("AddGap(%d, %d) = %d, %v; want %d", c.gens, c.x, got.Gens, ok, c.want)
		}
	}
}

// TestAddGapOfSomeSemigroups takes each gap and each other number around.
func TestAddGapOfSomeSemigroups(t *testing.T) {
	count := map[bool]int{}
	for _, gens := range append(factoredSemigroups(), numbersFrom(20, 30), numbersFrom(20, 31), []int{7, 17, 33}, []int{3, 31}, []int{3, 32}) {
		facts := symmetryFactsByText(gens)
		numbers := slices.Concat(facts.special, facts.pseudo, gens, []int{math.MinInt, -199, -2, -1, 0, 1, 2, 60, 61, 199, 200, 201, 1 << 32, math.MaxInt})
		if len(gens) <= 3 {
			numbers = append(numbers, gapFactsByText(gens).gaps...)
		}
		for _, x := range numbers {
			ok := compareAddGap(t, gens, x)
			if slices.Contains(facts.special, x) {
				count[ok]++
			}
		}
	}
	if count[true] < 20 || count[false] < 20 {
		t.Errorf("the test itself is wrong: %v", count)
	}
}

func TestChangesOfSmallSemigroups(t *testing.T) {
	for _, gens := range smallSemigroups(7) {
		for x := -2; x <= 18; x++ {
			compareAddGap(t, gens, x)
			compareRemove(t, gens, x)
		}
	}
}

func TestRemoveGenerator(t *testing.T) {
	cases := []changeCase{
		// Each of Gens.
		{[]int{3, 5}, 3, []int{5, 6, 8, 9}},
		{[]int{3, 5}, 5, []int{3, 8, 10}},
		{[]int{2, 3}, 2, []int{3, 4, 5}},
		{[]int{2, 3}, 3, []int{2, 5}},
		{[]int{3, 4, 5}, 3, []int{4, 5, 6, 7}},
		{[]int{3, 4, 5}, 4, []int{3, 5, 7}},
		{[]int{3, 4, 5}, 5, []int{3, 4}},
		{[]int{4, 6, 9}, 4, []int{6, 8, 9, 10, 13}},
		{[]int{4, 6, 9}, 6, []int{4, 9, 10, 15}},
		{[]int{4, 6, 9}, 9, []int{4, 6, 13, 15}},
		// Elements that are none of them, and gaps.
		{[]int{3, 5}, 0, nil},
		{[]int{3, 5}, 6, nil},
		{[]int{3, 5}, 8, nil},
		{[]int{3, 5}, 60, nil},
		{[]int{3, 5}, 61, nil},
		{[]int{3, 5}, 200, nil},
		{[]int{3, 5}, 1, nil},
		{[]int{3, 5}, 4, nil},
		{[]int{3, 5}, 7, nil},
		{[]int{3, 5}, -1, nil},
		{[]int{3, 5}, -3, nil},
		{[]int{3, 5}, 1<<32 + 3, nil},
		{[]int{3, 5}, math.MinInt, nil},
		{[]int{3, 5}, math.MaxInt, nil},
		// The semigroup without gaps.
		{[]int{1}, 1, []int{2, 3}},
		{[]int{1}, 0, nil},
		{[]int{1}, 2, nil},
		{[]int{1}, -1, nil},
		// Results with 12 Gens, and with 13.
		{allFrom(11), 11, allFrom(12)},
		{allFrom(12), 12, nil},
		{allFrom(12), 23, numbersFrom(12, 22)},
		// Results with a generator of 59, of 60, of 61 and of more.
		{[]int{2, 57}, 57, []int{2, 59}},
		{[]int{2, 59}, 59, nil},
		{[]int{2, 59}, 2, nil},
		{[]int{2, 57}, 2, []int{4, 6, 57, 59}},
		{[]int{5, 51}, 51, nil},
		{[]int{7, 17, 60}, 60, nil},
		// Results with a conductor of 200.
		{[]int{5, 51}, 5, []int{10, 15, 51, 56}},
		{[]int{9, 26}, 9, []int{18, 26, 27, 35}},
		{[]int{9, 26}, 26, nil},
		// No semigroup.
		{nil, 1, nil},
		{nil, 0, nil},
		{[]int{0}, 0, nil},
		{[]int{2}, 2, nil},
		{[]int{5, 3}, 3, nil},
		{[]int{3, 5, 8}, 8, nil},
		{[]int{2, 61}, 61, nil},
		{[]int{1, 1}, 1, nil},
	}
	for _, c := range cases {
		if byText, ok := removeByText(c.gens, c.x); !slices.Equal(byText, c.want) || ok != (len(c.want) > 0) {
			t.Errorf("the test itself is wrong: %d, %d: %d", c.gens, c.x, byText)
		}
		if got, ok := impl.RemoveGenerator(impl.Semigroup{Gens: c.gens}, c.x); !slices.Equal(got.Gens, c.want) || ok != (len(c.want) > 0) {
			t.Errorf("RemoveGenerator(%d, %d) = %d, %v; want %d", c.gens, c.x, got.Gens, ok, c.want)
		}
	}
}

// TestRemoveGeneratorOfSomeSemigroups also finds out why a generator cannot be
// removed: it is never because of the conductor, as no generator is beyond 60.
func TestRemoveGeneratorOfSomeSemigroups(t *testing.T) {
	tooMany, tooGreat := 0, 0
	for _, gens := range append(factoredSemigroups(), allFrom(10), []int{7, 17, 33}, []int{2, 57}) {
		for _, x := range append([]int{math.MinInt, -60, -1, 0, 1, 2, 8, 24, 60, 61, 199, 200, 201, 1 << 32, math.MaxInt}, gens...) {
			if compareRemove(t, gens, x) || !slices.Contains(gens, x) {
				continue
			}
			needed, greatest := neededWithout(gens, x)
			switch {
			case greatest > 199:
				t.Fatalf("%d without %d has the conductor %d", gens, x, greatest+1)
			case slices.Max(needed) > 60:
				tooGreat++
			case len(needed) > 12:
				tooMany++
			default:
				t.Fatalf("RemoveGenerator(%d, %d) fails, but needs only %d", gens, x, needed)
			}
		}
	}
	if tooMany < 1 || tooGreat < 10 {
		t.Errorf("the test itself is wrong: %d with too many Gens, %d with too great ones", tooMany, tooGreat)
	}
}

// TestRemovedAndAddedAgain also adds a gap and removes it again.
func TestRemovedAndAddedAgain(t *testing.T) {
	for _, gens := range append(factoredSemigroups(), smallSemigroups(9)...) {
		s := impl.Semigroup{Gens: gens}
		for _, x := range gens {
			without, ok := impl.RemoveGenerator(s, x)
			if !ok {
				continue
			}
			if again, ok := impl.AddGap(without, x); !ok || !slices.Equal(again.Gens, gens) {
				t.Fatalf("%d without %d is %d, but with it again %d, %v", gens, x, without.Gens, again.Gens, ok)
			}
			if impl.GenusOf(without) != impl.GenusOf(s)+1 || impl.Contains(without, x) || !impl.IsWithin(without, s) {
				t.Fatalf("%d without %d is %d", gens, x, without.Gens)
			}
		}
		for _, x := range impl.SpecialGaps(s) {
			with, ok := impl.AddGap(s, x)
			if !ok {
				continue
			}
			if again, ok := impl.RemoveGenerator(with, x); !ok || !slices.Equal(again.Gens, gens) {
				t.Fatalf("%d with %d is %d, but without it again %d, %v", gens, x, with.Gens, again.Gens, ok)
			}
			if impl.GenusOf(with) != impl.GenusOf(s)-1 || !impl.Contains(with, x) || !impl.IsWithin(s, with) {
				t.Fatalf("%d with %d is %d", gens, x, with.Gens)
			}
		}
	}
}

func compareLarger(t *testing.T, gens []int) [][]int {
	t.Helper()
	got, ok := impl.LargerSemigroups(impl.Semigroup{Gens: gens})
	want, wantOK := largerByText(gens)
	if !equalLists(gensOf(got), want) || ok != wantOK {
		t.Fatalf("LargerSemigroups(%d) = %d, %v; want %d, %v", gens, gensOf(got), ok, want, wantOK)
	}
	return gensOf(got)
}

func TestLargerSemigroups(t *testing.T) {
	if impl.MaxOver != 9 {
		t.Errorf("MaxOver = %d", impl.MaxOver)
	}
	cases := []struct {
		gens []int
		want [][]int
	}{
		{[]int{1}, [][]int{{1}}},
		{[]int{2, 3}, [][]int{{1}, {2, 3}}},
		{[]int{2, 5}, [][]int{{1}, {2, 3}, {2, 5}}},
		{[]int{3, 4, 5}, [][]int{{1}, {2, 3}, {3, 4, 5}}},
		{[]int{3, 5}, [][]int{{1}, {2, 3}, {3, 4, 5}, {3, 5, 7}, {3, 5}}},
		{[]int{4, 5, 6, 7}, [][]int{{1}, {2, 3}, {3, 4, 5}, {2, 5}, {4, 5, 6, 7}}},
		{[]int{4, 5, 7}, [][]int{{1}, {2, 3}, {3, 4, 5}, {2, 5}, {4, 5, 6, 7}, {4, 5, 7}}},
		// Genus 9.
		{[]int{2, 19}, [][]int{{1}, {2, 3}, {2, 5}, {2, 7}, {2, 9}, {2, 11}, {2, 13}, {2, 15}, {2, 17}, {2, 19}}},
		// Genus 10 and more.
		{[]int{2, 21}, nil},
		{[]int{3, 11}, nil},
		{[]int{5, 6}, nil},
		{allFrom(11), nil},
		{allFrom(12), nil},
		{[]int{6, 9, 20}, nil},
		{[]int{5, 51}, nil},
		// No semigroup.
		{nil, nil},
		{[]int{0}, nil},
		{[]int{2}, nil},
		{[]int{5, 3}, nil},
		{[]int{3, 5, 8}, nil},
		{[]int{2, 61}, nil},
	}
	for _, c := range cases {
		if byText, ok := largerByText(c.gens); !equalLists(byText, c.want) || ok != (len(c.want) > 0) {
			t.Errorf("the test itself is wrong: %d: %d", c.gens, byText)
		}
		if got, ok := impl.LargerSemigroups(impl.Semigroup{Gens: c.gens}); !equalLists(gensOf(got), c.want) || ok != (len(c.want) > 0) {
			t.Errorf("LargerSemigroups(%d) = %d, %v; want %d", c.gens, gensOf(got), ok, c.want)
		}
	}
}

// TestLargerSemigroupsOfGenus10 takes all semigroups whose genus is just too
// great, each made of one with a genus of 9, which are 204.
func TestLargerSemigroupsOfGenus10(t *testing.T) {
	count := 0
	for _, k := range knownByGenus()[9] {
		for _, x := range k.gens {
			if x < k.gaps[8] {
				continue
			}
			count++
			gens, _ := removeByText(k.gens, x)
			if got, ok := impl.LargerSemigroups(impl.Semigroup{Gens: gens}); len(gens) == 0 || len(got) > 0 || ok {
				t.Fatalf("LargerSemigroups(%d), of genus 10, = %d, %v", gens, gensOf(got), ok)
			}
		}
	}
	if count != 204 {
		t.Errorf("the test itself is wrong: %d", count)
	}
}

// TestLargerSemigroupsOfAll looks at the order of all results, too: by genus and
// then by gaps, so that none comes twice and the semigroup itself is the last.
func TestLargerSemigroupsOfAll(t *testing.T) {
	most := 0
	for _, gens := range append(smallSemigroups(9), factoredSemigroups()...) {
		list := compareLarger(t, gens)
		most = max(most, len(list))
		if len(list) == 0 {
			continue
		}
		if !slices.Equal(list[len(list)-1], gens) {
			t.Fatalf("the last of LargerSemigroups(%d) is %d", gens, list[len(list)-1])
		}
		for i := 1; i < len(list); i++ {
			before, now := gapFactsByText(list[i-1]), gapFactsByText(list[i])
			if cmp.Or(cmp.Compare(before.genus, now.genus), slices.Compare(before.gaps, now.gaps)) >= 0 {
				t.Fatalf("of LargerSemigroups(%d), %d comes before %d", gens, list[i-1], list[i])
			}
		}
	}
	if most != 58 {
		t.Errorf("the test itself is wrong: at most %d", most)
	}
}

// TestLargerSemigroupsAgain: the larger ones of larger ones are larger ones, and
// each is reached by adding gaps one after another.
func TestLargerSemigroupsAgain(t *testing.T) {
	for _, gens := range smallSemigroups(7) {
		s := impl.Semigroup{Gens: gens}
		list, _ := impl.LargerSemigroups(s)
		isLarger := map[string]bool{}
		for _, larger := range list {
			isLarger[impl.SemigroupText(larger)] = true
		}
		for _, larger := range list {
			if !impl.IsWithin(s, larger) {
				t.Fatalf("%d is not within %d, one of its LargerSemigroups", gens, larger.Gens)
			}
			for _, x := range impl.SpecialGaps(larger) {
				if with, ok := impl.AddGap(larger, x); !ok || !isLarger[impl.SemigroupText(with)] {
					t.Fatalf("%d with %d is %d, which is not among LargerSemigroups(%d)", larger.Gens, x, with.Gens, gens)
				}
			}
		}
	}
}

func TestChangesOfNoSemigroup(t *testing.T) {
	for _, gens := range append(invalidGens(), []int{48, 60}, []int{1, 1}) {
		s := impl.Semigroup{Gens: gens}
		for _, x := range append([]int{math.MinInt, -1, 0, 1, 2, 3, 7, 59, 60, 61, 199, 200, math.MaxInt}, gens...) {
			if got, ok := impl.AddGap(s, x); len(got.Gens) > 0 || ok {
				t.Errorf("AddGap(%d, %d), of no semigroup, = %d, %v", gens, x, got.Gens, ok)
			}
			if got, ok := impl.RemoveGenerator(s, x); len(got.Gens) > 0 || ok {
				t.Errorf("RemoveGenerator(%d, %d), of no semigroup, = %d, %v", gens, x, got.Gens, ok)
			}
		}
		if got, ok := impl.LargerSemigroups(s); len(got) > 0 || ok {
			t.Errorf("LargerSemigroups(%d), of no semigroup, = %d, %v", gens, gensOf(got), ok)
		}
	}
}

// changeCalls change a semigroup by its greatest gap, by its generators and by
// numbers that do not fit.
func changeCalls() map[string]func(s impl.Semigroup) []int {
	add := func(s impl.Semigroup, x int) []int {
		with, _ := impl.AddGap(s, x)
		return with.Gens
	}
	remove := func(s impl.Semigroup, x int) []int {
		without, _ := impl.RemoveGenerator(s, x)
		return without.Gens
	}
	return map[string]func(s impl.Semigroup) []int{
		"AddGap of the greatest gap":        func(s impl.Semigroup) []int { return add(s, impl.FrobeniusOf(s)) },
		"AddGap of 2":                       func(s impl.Semigroup) []int { return add(s, 2) },
		"AddGap of 3":                       func(s impl.Semigroup) []int { return add(s, 3) },
		"RemoveGenerator of the least one":  func(s impl.Semigroup) []int { return remove(s, impl.MultiplicityOf(s)) },
		"RemoveGenerator of 5":              func(s impl.Semigroup) []int { return remove(s, 5) },
		"RemoveGenerator of what is no one": func(s impl.Semigroup) []int { return remove(s, 61) },
		"RemoveGenerator of 9":              func(s impl.Semigroup) []int { return remove(s, 9) },
		"the last of LargerSemigroups":      func(s impl.Semigroup) []int { return lastOf(impl.LargerSemigroups(s)) },
	}
}

func lastOf(list []impl.Semigroup, ok bool) []int {
	if !ok || len(list) == 0 {
		return nil
	}
	return list[len(list)-1].Gens
}

func TestChangeCallsLeaveGens(t *testing.T) {
	checkCallsLeaveGens(t, changeCalls(), slices.Concat(factoredSemigroups(), smallSemigroups(6), invalidGens()))
}

func TestChangesAreNewMemory(t *testing.T) {
	checkCallsGiveNewMemory(t, changeCalls(), append(factoredSemigroups(), smallSemigroups(6)...))
}

// checkSemigroupsAreNewMemory changes the semigroups of one result of a call one
// after another, with their unused capacity, then the list of them and then the
// argument, and looks at those that follow and at other results.
func checkSemigroupsAreNewMemory(t *testing.T, name string, gens []int, call func(s impl.Semigroup) []impl.Semigroup) {
	t.Helper()
	g := guard(gens)
	s := impl.Semigroup{Gens: g.list}
	first := call(s)
	want := copyOfLists(gensOf(first))
	second := call(s)
	for i := range first {
		scribble(first[i].Gens)
		if !equalLists(gensOf(first[i+1:]), want[i+1:]) {
			t.Fatalf("a change of one semigroup of %s of %d changes another one", name, gens)
		}
	}
	g.check(t, name+", or a change of its result,", gens)
	whole := first[:cap(first)]
	for i := range whole {
		whole[i] = impl.Semigroup{Gens: []int{-55}}
	}
	third := call(s)
	scribble(g.whole)
	if !equalLists(gensOf(second), want) || !equalLists(gensOf(third), want) {
		t.Fatalf("%s of %d gives %d and %d after others were changed; want %d", name, gens, gensOf(second), gensOf(third), want)
	}
}

func TestLargerSemigroupsAreNewMemory(t *testing.T) {
	for _, gens := range append(smallSemigroups(7), []int{2, 19}, allFrom(10), []int{2, 21}) {
		checkSemigroupsAreNewMemory(t, "LargerSemigroups", gens, func(s impl.Semigroup) []impl.Semigroup {
			list, _ := impl.LargerSemigroups(s)
			return list
		})
	}
}

// checkNoGoroutineGoesOn waits for goroutines that have nothing left to do but
// to end.
func checkNoGoroutineGoesOn(t *testing.T, before int, name string) {
	t.Helper()
	for wait := 0; wait < 200 && runtime.NumGoroutine() > before; wait++ {
		time.Sleep(5 * time.Millisecond)
	}
	if now := runtime.NumGoroutine(); now > before {
		t.Errorf("after %s there are %d goroutines; want %d", name, now, before)
	}
}

func TestLargerSemigroupsLeaveNoGoroutine(t *testing.T) {
	before := runtime.NumGoroutine()
	for range 20 {
		for _, gens := range [][]int{{1}, {3, 5}, allFrom(10), {2, 21}, {2}, nil} {
			impl.LargerSemigroups(impl.Semigroup{Gens: gens})
		}
	}
	checkNoGoroutineGoesOn(t, before, "LargerSemigroups")
}
