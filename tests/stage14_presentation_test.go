package tests

import (
	"math"
	"slices"
	"testing"

	"loop.example/g00595/impl"
)

// Promise 14: the relations of a presentation connect all factorizations, and
// none of them can be left out.

func areLinkedByText(a []int, b []int) bool {
	for i := range a {
		if a[i] != 0 && b[i] != 0 {
			return true
		}
	}
	return false
}

// classesByText takes the first factorization that is in no class yet, and
// whatever is linked to one of its class, as long as there is such a one.
func classesByText(gens []int, n int) [][][]int {
	found := factorizationsByText(gens, n)
	class := slices.Repeat([]int{-1}, len(found))
	var classes [][][]int
	for first := range found {
		if class[first] >= 0 {
			continue
		}
		number := len(classes)
		open := []int{first}
		class[first] = number
		for len(open) > 0 {
			now := open[0]
			open = open[1:]
			for i := range found {
				if class[i] < 0 && areLinkedByText(found[now], found[i]) {
					class[i] = number
					open = append(open, i)
				}
			}
		}
		var lists [][]int
		for i, list := range found {
			if class[i] == number {
				lists = append(lists, list)
			}
		}
		classes = append(classes, lists)
	}
	return classes
}

// greatestBetti is the number that BettiElements must not exceed.
func greatestBetti(gens []int) int {
	return gapFactsByText(gens).frobenius + gens[0] + 2*gens[len(gens)-1]
}

func bettiByText(gens []int) ([]int, bool) {
	if !isSemigroupByText(gens) || greatestBetti(gens) > 100 {
		return nil, false
	}
	var list []int
	for n := range 101 {
		if len(classesByText(gens, n)) > 1 {
			list = append(list, n)
		}
	}
	return list, true
}

func presentationByText(gens []int) ([]impl.Relation, bool) {
	elements, ok := bettiByText(gens)
	if !ok {
		return nil, false
	}
	var relations []impl.Relation
	for _, n := range elements {
		classes := classesByText(gens, n)
		for k := 1; k < len(classes); k++ {
			relations = append(relations, impl.Relation{A: classes[0][0], B: classes[k][0]})
		}
	}
	return relations, true
}

func applyByText(a []int, b []int, list []int) ([]int, bool) {
	if len(a) != len(list) || len(b) != len(list) {
		return nil, false
	}
	var applied []int
	for i := range list {
		if list[i] < a[i] {
			return nil, false
		}
		applied = append(applied, list[i]-a[i]+b[i])
	}
	return applied, true
}

func holdsList(lists [][]int, list []int) bool {
	return slices.ContainsFunc(lists, func(other []int) bool { return slices.Equal(other, list) })
}

func reachedByText(rels []impl.Relation, list []int, most int) [][]int {
	if most < 1 || most > 1000 {
		return nil
	}
	reached := [][]int{list}
	open := [][]int{list}
	for len(open) > 0 {
		now := open[0]
		open = open[1:]
		for _, r := range rels {
			forwards, ok := applyByText(r.A, r.B, now)
			if ok && !holdsList(reached, forwards) && len(reached) < most {
				reached = append(reached, forwards)
				open = append(open, forwards)
			}
			backwards, ok := applyByText(r.B, r.A, now)
			if ok && !holdsList(reached, backwards) && len(reached) < most {
				reached = append(reached, backwards)
				open = append(open, backwards)
			}
		}
	}
	return reached
}

func equalClasses(a [][][]int, b [][][]int) bool { return slices.EqualFunc(a, b, equalLists) }

func equalRelations(a []impl.Relation, b []impl.Relation) bool {
	return slices.EqualFunc(a, b, func(x, y impl.Relation) bool { return slices.Equal(x.A, y.A) && slices.Equal(x.B, y.B) })
}

// presentedSemigroups are semigroups with and without BettiElements.
func presentedSemigroups() [][]int {
	return append(factoredSemigroups(), []int{8, 9, 12}, []int{10, 12, 15}, []int{7, 9, 10, 11}, []int{11, 12, 13}, []int{13, 17}, []int{4, 5, 6}, []int{5, 6, 7}, []int{7, 8, 9, 10}, numbersFrom(7, 13),
		// The greatest number of BettiElements may be 99, 100, 101 or 102.
		[]int{2, 33}, []int{4, 6, 31}, []int{3, 25}, []int{5, 13, 29}, []int{7, 17, 20}, []int{4, 14, 29}, []int{6, 9, 23}, []int{5, 17}, []int{3, 20, 34})
}

func compareClasses(t *testing.T, gens []int, n int) int {
	t.Helper()
	got, want := impl.ClassesOf(impl.Semigroup{Gens: gens}, n), classesByText(gens, n)
	if !equalClasses(got, want) {
		t.Fatalf("ClassesOf(%d, %d) = %d; want %d", gens, n, got, want)
	}
	return len(got)
}

func TestClassesOf(t *testing.T) {
	cases := []struct {
		gens []int
		n    int
		want [][][]int
	}{
		// The number 0, gaps and elements with one factorization.
		{[]int{3, 5}, 0, [][][]int{{{0, 0}}}},
		{[]int{1}, 0, [][][]int{{{0}}}},
		{[]int{3, 5}, 1, nil},
		{[]int{3, 5}, 7, nil},
		{[]int{6, 9, 20}, 43, nil},
		{[]int{3, 5}, 3, [][][]int{{{1, 0}}}},
		{[]int{3, 5}, 8, [][][]int{{{1, 1}}}},
		{[]int{1}, 100, [][][]int{{{100}}}},
		// One class of several factorizations.
		{[]int{3, 5}, 18, [][][]int{{{6, 0}, {1, 3}}}},
		{[]int{4, 6, 9}, 16, [][][]int{{{4, 0, 0}, {1, 2, 0}}}},
		{[]int{3, 4, 5}, 11, [][][]int{{{2, 0, 1}, {1, 2, 0}}}},
		// Some that are linked only by way of others.
		{[]int{3, 5}, 30, [][][]int{{{10, 0}, {5, 3}, {0, 6}}}},
		{[]int{4, 6, 9}, 24, [][][]int{{{6, 0, 0}, {3, 2, 0}, {0, 4, 0}, {0, 1, 2}}}},
		{[]int{4, 6, 9}, 36, [][][]int{{{9, 0, 0}, {6, 2, 0}, {3, 4, 0}, {3, 1, 2}, {0, 6, 0}, {0, 3, 2}, {0, 0, 4}}}},
		{[]int{3, 4, 5}, 12, [][][]int{{{4, 0, 0}, {1, 1, 1}, {0, 3, 0}}}},
		{[]int{3, 4, 5}, 15, [][][]int{{{5, 0, 0}, {2, 1, 1}, {1, 3, 0}, {0, 0, 3}}}},
		{[]int{7, 9, 10, 11}, 31, [][][]int{{{3, 0, 1, 0}, {0, 1, 0, 2}, {0, 0, 2, 1}}}},
		{[]int{7, 11, 13, 15}, 41, [][][]int{{{4, 0, 1, 0}, {0, 1, 0, 2}, {0, 0, 2, 1}}}},
		// Several classes.
		{[]int{3, 5}, 15, [][][]int{{{5, 0}}, {{0, 3}}}},
		{[]int{4, 6, 9}, 12, [][][]int{{{3, 0, 0}}, {{0, 2, 0}}}},
		{[]int{4, 6, 9}, 18, [][][]int{{{3, 1, 0}, {0, 3, 0}}, {{0, 0, 2}}}},
		{[]int{3, 4, 5}, 8, [][][]int{{{1, 0, 1}}, {{0, 2, 0}}}},
		{[]int{6, 9, 20}, 60, [][][]int{{{10, 0, 0}, {7, 2, 0}, {4, 4, 0}, {1, 6, 0}}, {{0, 0, 3}}}},
		{[]int{6, 10, 15}, 30, [][][]int{{{5, 0, 0}}, {{0, 3, 0}}, {{0, 0, 2}}}},
		{[]int{4, 5, 6, 7}, 12, [][][]int{{{3, 0, 0, 0}}, {{0, 1, 0, 1}}, {{0, 0, 2, 0}}}},
		{[]int{6, 7, 8, 9, 10, 11}, 18, [][][]int{{{3, 0, 0, 0, 0, 0}}, {{0, 1, 0, 0, 0, 1}}, {{0, 0, 1, 0, 1, 0}}, {{0, 0, 0, 2, 0, 0}}}},
		{[]int{8, 9, 10, 11, 12, 13, 14, 15}, 26, [][][]int{{{2, 0, 1, 0, 0, 0, 0, 0}, {1, 2, 0, 0, 0, 0, 0, 0}}, {{0, 0, 0, 1, 0, 0, 0, 1}}, {{0, 0, 0, 0, 1, 0, 1, 0}}, {{0, 0, 0, 0, 0, 2, 0, 0}}}},
		// The first class has a factorization behind the one of the second class.
		{[]int{8, 9, 12}, 36, [][][]int{{{3, 0, 1}, {0, 0, 3}}, {{0, 4, 0}}}},
		{[]int{10, 12, 15}, 60, [][][]int{{{6, 0, 0}, {3, 0, 2}, {0, 0, 4}}, {{0, 5, 0}}}},
		// MaxFactored, one more, below zero and the integers at the ends.
		{[]int{7, 17, 60}, 100, [][][]int{{{7, 3, 0}}}},
		{[]int{4, 25}, 100, [][][]int{{{25, 0}}, {{0, 4}}}},
		{[]int{3, 59}, 100, nil},
		{[]int{3, 5}, 101, nil},
		{[]int{3, 5}, 105, nil},
		{[]int{3, 5}, 1000, nil},
		{[]int{3, 5}, -1, nil},
		{[]int{3, 5}, -15, nil},
		{[]int{3, 5}, 1<<32 + 15, nil},
		{[]int{3, 5}, math.MinInt, nil},
		{[]int{3, 5}, math.MaxInt, nil},
		{[]int{1}, 101, nil},
		{[]int{1}, -1, nil},
		// No semigroup.
		{nil, 0, nil},
		{[]int{0}, 0, nil},
		{[]int{2}, 2, nil},
		{[]int{5, 3}, 15, nil},
		{[]int{3, 5, 8}, 15, nil},
		{[]int{2, 61}, 61, nil},
	}
	for _, c := range cases {
		if byText := classesByText(c.gens, c.n); !equalClasses(byText, c.want) {
			t.Errorf("the test itself is wrong: %d, %d: %d", c.gens, c.n, byText)
		}
		if got := impl.ClassesOf(impl.Semigroup{Gens: c.gens}, c.n); !equalClasses(got, c.want) {
			t.Errorf("ClassesOf(%d, %d) = %d; want %d", c.gens, c.n, got, c.want)
		}
	}
}

func TestClassesOfSomeSemigroups(t *testing.T) {
	several := 0
	for _, gens := range presentedSemigroups() {
		for n := range 101 {
			if compareClasses(t, gens, n) > 1 {
				several++
			}
		}
		for _, n := range factoredNumbers() {
			compareClasses(t, gens, n)
		}
	}
	if several < 100 {
		t.Errorf("the test itself is wrong: only %d numbers with several classes", several)
	}
}

// TestClassesOfSubsets takes all lists of different numbers up to 9, those of
// no semigroup included.
func TestClassesOfSubsets(t *testing.T) {
	for set := range 1 << 9 {
		var list []int
		for g := 1; g <= 9; g++ {
			if set>>(g-1)&1 == 1 {
				list = append(list, g)
			}
		}
		for n := -1; n <= 45; n++ {
			compareClasses(t, list, n)
		}
	}
}

// TestClassesOfTriples has many classes of which the lists are not next to each
// other in Factorizations.
func TestClassesOfTriples(t *testing.T) {
	apart := 0
	for a := 6; a <= 16; a += 2 {
		for b := a + 1; b <= 21; b++ {
			for c := b + 1; c <= 24; c++ {
				gens := []int{a, b, c}
				if !isSemigroupByText(gens) {
					continue
				}
				for n := 2 * b; n <= 80; n++ {
					compareClasses(t, gens, n)
					if !equalLists(slices.Concat(classesByText(gens, n)...), factorizationsByText(gens, n)) {
						apart++
					}
				}
			}
		}
	}
	if apart < 3 {
		t.Errorf("the test itself is wrong: only %d", apart)
	}
}

func TestBettiElements(t *testing.T) {
	cases := []struct {
		gens   []int
		want   []int
		wantOK bool
	}{
		// The semigroup without gaps.
		{[]int{1}, nil, true},
		// Two Gens.
		{[]int{2, 3}, []int{6}, true},
		{[]int{3, 5}, []int{15}, true},
		{[]int{8, 11}, []int{88}, true},
		// More.
		{[]int{3, 4, 5}, []int{8, 9, 10}, true},
		{[]int{3, 5, 7}, []int{10, 12, 14}, true},
		{[]int{4, 6, 9}, []int{12, 18}, true},
		{[]int{6, 9, 20}, []int{18, 60}, true},
		{[]int{6, 10, 15}, []int{30}, true},
		{[]int{8, 9, 12}, []int{24, 36}, true},
		{[]int{4, 5, 6, 7}, numbersFrom(10, 14), true},
		{[]int{5, 7, 9, 11}, []int{14, 16, 18, 20, 22}, true},
		{numbersFrom(5, 9), numbersFrom(12, 18), true},
		{numbersFrom(12, 23), numbersFrom(26, 46), true},
		// The greatest number that is possible is 99, 100, 101 or more.
		{[]int{2, 33}, []int{66}, true},
		{[]int{4, 6, 31}, []int{12, 62}, true},
		{[]int{3, 25}, []int{75}, true},
		{[]int{5, 13, 29}, []int{39, 55, 58}, true},
		{[]int{7, 17, 20}, []int{34, 77, 80}, true},
		{[]int{4, 14, 29}, nil, false},
		{[]int{6, 9, 23}, nil, false},
		{[]int{5, 17}, nil, false},
		{[]int{3, 20, 34}, nil, false},
		{[]int{13, 17}, nil, false},
		{[]int{5, 51}, nil, false},
		{greatestMultiplicity(), nil, false},
		// No semigroup.
		{nil, nil, false},
		{[]int{0}, nil, false},
		{[]int{2}, nil, false},
		{[]int{5, 3}, nil, false},
		{[]int{3, 5, 8}, nil, false},
		{[]int{2, 61}, nil, false},
		{[]int{math.MinInt, 1}, nil, false},
	}
	for _, c := range cases {
		if byText, ok := bettiByText(c.gens); !slices.Equal(byText, c.want) || ok != c.wantOK {
			t.Errorf("the test itself is wrong: %d: %d, %v", c.gens, byText, ok)
		}
		if got, ok := impl.BettiElements(impl.Semigroup{Gens: c.gens}); !slices.Equal(got, c.want) || ok != c.wantOK {
			t.Errorf("BettiElements(%d) = %d, %v; want %d, %v", c.gens, got, ok, c.want, c.wantOK)
		}
	}
	for greatest, gens := range map[int][]int{99: {2, 33}, 100: {3, 25}, 101: {4, 14, 29}, 102: {5, 17}} {
		if greatestBetti(gens) != greatest {
			t.Errorf("the test itself is wrong: %d", gens)
		}
	}
}

func TestPresentationOf(t *testing.T) {
	cases := []struct {
		gens   []int
		want   []impl.Relation
		wantOK bool
	}{
		{[]int{1}, nil, true},
		{[]int{3, 5}, []impl.Relation{{A: []int{5, 0}, B: []int{0, 3}}}, true},
		{[]int{4, 6, 9}, []impl.Relation{{A: []int{3, 0, 0}, B: []int{0, 2, 0}}, {A: []int{3, 1, 0}, B: []int{0, 0, 2}}}, true},
		{[]int{6, 9, 20}, []impl.Relation{{A: []int{3, 0, 0}, B: []int{0, 2, 0}}, {A: []int{10, 0, 0}, B: []int{0, 0, 3}}}, true},
		{[]int{8, 9, 12}, []impl.Relation{{A: []int{3, 0, 0}, B: []int{0, 0, 2}}, {A: []int{3, 0, 1}, B: []int{0, 4, 0}}}, true},
		{[]int{3, 4, 5}, []impl.Relation{{A: []int{1, 0, 1}, B: []int{0, 2, 0}}, {A: []int{3, 0, 0}, B: []int{0, 1, 1}}, {A: []int{2, 1, 0}, B: []int{0, 0, 2}}}, true},
		// Several relations of one element.
		{[]int{6, 10, 15}, []impl.Relation{{A: []int{5, 0, 0}, B: []int{0, 3, 0}}, {A: []int{5, 0, 0}, B: []int{0, 0, 2}}}, true},
		{[]int{4, 5, 6, 7}, []impl.Relation{
			{A: []int{1, 0, 1, 0}, B: []int{0, 2, 0, 0}}, {A: []int{1, 0, 0, 1}, B: []int{0, 1, 1, 0}}, {A: []int{3, 0, 0, 0}, B: []int{0, 1, 0, 1}},
			{A: []int{3, 0, 0, 0}, B: []int{0, 0, 2, 0}}, {A: []int{2, 1, 0, 0}, B: []int{0, 0, 1, 1}}, {A: []int{2, 0, 1, 0}, B: []int{0, 0, 0, 2}},
		}, true},
		// BettiElements fails.
		{[]int{13, 17}, nil, false},
		{[]int{4, 14, 29}, nil, false},
		{nil, nil, false},
		{[]int{2}, nil, false},
		{[]int{5, 3}, nil, false},
		{[]int{3, 5, 8}, nil, false},
	}
	for _, c := range cases {
		if byText, ok := presentationByText(c.gens); !equalRelations(byText, c.want) || ok != c.wantOK {
			t.Errorf("the test itself is wrong: %d: %v, %v", c.gens, byText, ok)
		}
		if got, ok := impl.PresentationOf(impl.Semigroup{Gens: c.gens}); !equalRelations(got, c.want) || ok != c.wantOK {
			t.Errorf("PresentationOf(%d) = %v, %v; want %v, %v", c.gens, got, ok, c.want, c.wantOK)
		}
	}
}

// comparePresentation also looks at what relations are to be, and at the
// generators, which are no sums of others and so no BettiElements.
func comparePresentation(t *testing.T, gens []int) bool {
	t.Helper()
	s := impl.Semigroup{Gens: gens}
	elements, wantOK := bettiByText(gens)
	if got, ok := impl.BettiElements(s); !slices.Equal(got, elements) || ok != wantOK {
		t.Fatalf("BettiElements(%d) = %d, %v; want %d, %v", gens, got, ok, elements, wantOK)
	}
	want, _ := presentationByText(gens)
	got, ok := impl.PresentationOf(s)
	if !equalRelations(got, want) || ok != wantOK {
		t.Fatalf("PresentationOf(%d) = %v, %v; want %v, %v", gens, got, ok, want, wantOK)
	}
	for _, g := range gens {
		if slices.Contains(elements, g) {
			t.Fatalf("BettiElements(%d) = %d, with a generator", gens, elements)
		}
	}
	last := 0
	for _, r := range got {
		value := impl.ValueOf(s, r.A)
		if value < last || impl.ValueOf(s, r.B) != value || !slices.Contains(elements, value) || areLinkedByText(r.A, r.B) {
			t.Fatalf("PresentationOf(%d) = %v, of the numbers %d", gens, got, elements)
		}
		last = value
	}
	return ok
}

func TestPresentationOfSomeSemigroups(t *testing.T) {
	presented := 0
	for _, gens := range presentedSemigroups() {
		if comparePresentation(t, gens) {
			presented++
		}
	}
	if presented < 20 {
		t.Errorf("the test itself is wrong: only %d presentations", presented)
	}
}

// TestPresentationOfSubsets takes all lists of different numbers up to 10,
// those of no semigroup included.
func TestPresentationOfSubsets(t *testing.T) {
	for set := range 1 << 10 {
		var list []int
		for g := 1; g <= 10; g++ {
			if set>>(g-1)&1 == 1 {
				list = append(list, g)
			}
		}
		comparePresentation(t, list)
	}
}

// TestPresentationConnects reaches, from one factorization of each number, all
// others.
func TestPresentationConnects(t *testing.T) {
	for _, gens := range presentedSemigroups() {
		s := impl.Semigroup{Gens: gens}
		relations, ok := impl.PresentationOf(s)
		if !ok {
			continue
		}
		for n := range 101 {
			found := factorizationsByText(gens, n)
			if len(found) == 0 || len(found) > 150 && n%20 > 0 {
				continue
			}
			start := found[n%len(found)]
			reached := impl.ReachedBy(relations, start, 1000)
			slices.SortFunc(reached, func(a, b []int) int { return slices.Compare(b, a) })
			if !equalLists(reached, found) {
				t.Fatalf("PresentationOf(%d) leads from %d to %d; want %d", gens, start, reached, found)
			}
		}
	}
}

// TestPresentationNeedsAll leaves out each relation: then its A no longer leads
// to its B.
func TestPresentationNeedsAll(t *testing.T) {
	left := 0
	for _, gens := range presentedSemigroups() {
		relations, _ := impl.PresentationOf(impl.Semigroup{Gens: gens})
		for i, r := range relations {
			others := slices.Delete(slices.Clone(relations), i, i+1)
			if reached := impl.ReachedBy(others, r.A, 1000); holdsList(reached, r.B) || len(reached) == 1000 {
				t.Fatalf("PresentationOf(%d) = %v, of which %v can be left out", gens, relations, r)
			}
			if !holdsList(impl.ReachedBy(relations, r.A, 1000), r.B) {
				t.Fatalf("PresentationOf(%d) = %v, which does not lead from %d to %d", gens, relations, r.A, r.B)
			}
			left++
		}
	}
	if left < 200 {
		t.Errorf("the test itself is wrong: only %d relations", left)
	}
}

func TestApplyRelation(t *testing.T) {
	const least, most = math.MinInt, math.MaxInt
	cases := []struct {
		a, b, list, want []int
		wantOK           bool
	}{
		{[]int{3, 0, 0}, []int{0, 2, 0}, []int{4, 0, 1}, []int{1, 2, 1}, true},
		{[]int{3, 0, 0}, []int{0, 2, 0}, []int{3, 0, 0}, []int{0, 2, 0}, true},
		{[]int{3, 1, 0}, []int{0, 0, 2}, []int{3, 1, 0}, []int{0, 0, 2}, true},
		{[]int{1, 1}, []int{1, 1}, []int{1, 1}, []int{1, 1}, true},
		{[]int{0, 0}, []int{0, 0}, []int{4, 5}, []int{4, 5}, true},
		{[]int{0, 0}, []int{2, 3}, []int{4, 5}, []int{6, 8}, true},
		{[]int{2}, []int{5}, []int{9}, []int{12}, true},
		// A number equal to that of A, and one less, at each place.
		{[]int{2, 3}, []int{1, 1}, []int{2, 3}, []int{1, 1}, true},
		{[]int{2, 3}, []int{1, 1}, []int{1, 3}, nil, false},
		{[]int{2, 3}, []int{1, 1}, []int{2, 2}, nil, false},
		{[]int{3, 0, 0}, []int{0, 2, 0}, []int{2, 0, 1}, nil, false},
		{[]int{0, 0, 3}, []int{2, 2, 0}, []int{9, 9, 2}, nil, false},
		// B would make up for it, but not in between.
		{[]int{3}, []int{3}, []int{2}, nil, false},
		{[]int{2, 3}, []int{9, 9}, []int{1, 9}, nil, false},
		// Different lengths: of A, of B and of the list.
		{[]int{3}, []int{0, 2}, []int{5, 5}, nil, false},
		{[]int{3, 0, 0}, []int{0, 2}, []int{5, 5}, nil, false},
		{nil, []int{0, 2}, []int{5, 5}, nil, false},
		{[]int{3, 0}, []int{0}, []int{5, 5}, nil, false},
		{[]int{3, 0}, []int{0, 2, 0}, []int{5, 5}, nil, false},
		{[]int{3, 0}, nil, []int{5, 5}, nil, false},
		{[]int{3, 0}, []int{0, 2}, []int{5}, nil, false},
		{[]int{3, 0}, []int{0, 2}, []int{5, 5, 5}, nil, false},
		{[]int{3, 0}, []int{0, 2}, nil, nil, false},
		{nil, nil, []int{0}, nil, false},
		{nil, []int{0}, nil, nil, false},
		{[]int{0}, nil, nil, nil, false},
		// Empty lists.
		{nil, nil, nil, nil, true},
		{[]int{}, []int{}, []int{}, nil, true},
		// Numbers below zero, and the integers at the ends.
		{[]int{-2}, []int{0}, []int{-1}, []int{1}, true},
		{[]int{-2}, []int{0}, []int{-2}, []int{0}, true},
		{[]int{-2}, []int{0}, []int{-3}, nil, false},
		{[]int{0}, []int{0}, []int{-1}, nil, false},
		{[]int{1}, []int{-3}, []int{2}, []int{-2}, true},
		{[]int{0, 5}, []int{5, 0}, []int{-1, 9}, nil, false},
		{[]int{most}, []int{0}, []int{most}, []int{0}, true},
		{[]int{most}, []int{most}, []int{most}, []int{most}, true},
		{[]int{most}, []int{0}, []int{most - 1}, nil, false},
		{[]int{0}, []int{most}, []int{0}, []int{most}, true},
		{[]int{least}, []int{0}, []int{least}, []int{0}, true},
		{[]int{least + 1}, []int{0}, []int{least}, nil, false},
		{[]int{0}, []int{least}, []int{0}, []int{least}, true},
		{[]int{0}, []int{1}, []int{least}, nil, false},
		{[]int{most}, []int{1}, []int{least}, nil, false},
		{[]int{1}, []int{least}, []int{most}, []int{-2}, true},
	}
	for _, c := range cases {
		if byText, ok := applyByText(c.a, c.b, c.list); !slices.Equal(byText, c.want) || ok != c.wantOK {
			t.Errorf("the test itself is wrong: %d, %d, %d: %d, %v", c.a, c.b, c.list, byText, ok)
		}
		if got, ok := impl.ApplyRelation(impl.Relation{A: c.a, B: c.b}, c.list); !slices.Equal(got, c.want) || ok != c.wantOK {
			t.Errorf("ApplyRelation of %d and %d to %d = %d, %v; want %d, %v", c.a, c.b, c.list, got, ok, c.want, c.wantOK)
		}
	}
}

func TestApplyRelationToShortLists(t *testing.T) {
	lists := shortLists(numbersFrom(-1, 2), 2)
	for _, a := range lists {
		for _, b := range lists {
			for _, list := range lists {
				want, wantOK := applyByText(a, b, list)
				if got, ok := impl.ApplyRelation(impl.Relation{A: a, B: b}, list); !slices.Equal(got, want) || ok != wantOK {
					t.Fatalf("ApplyRelation of %d and %d to %d = %d, %v; want %d, %v", a, b, list, got, ok, want, wantOK)
				}
			}
		}
	}
}

// reachedCase is what ReachedBy is asked for.
type reachedCase struct {
	rels []impl.Relation
	list []int
	most int
}

func (c reachedCase) compare(t *testing.T) [][]int {
	t.Helper()
	got, want := impl.ReachedBy(c.rels, c.list, c.most), reachedByText(c.rels, c.list, c.most)
	if !equalLists(got, want) {
		t.Fatalf("ReachedBy(%v, %d, %d) = %d; want %d", c.rels, c.list, c.most, got, want)
	}
	return got
}

func TestReachedBy(t *testing.T) {
	pair := []impl.Relation{{A: []int{3, 0, 0}, B: []int{0, 2, 0}}, {A: []int{3, 1, 0}, B: []int{0, 0, 2}}}
	one := []impl.Relation{{A: []int{1}, B: []int{0}}}
	cases := []struct {
		reachedCase
		want [][]int
	}{
		{reachedCase{pair, []int{3, 1, 0}, 100}, [][]int{{3, 1, 0}, {0, 3, 0}, {0, 0, 2}}},
		{reachedCase{pair, []int{0, 0, 2}, 100}, [][]int{{0, 0, 2}, {3, 1, 0}, {0, 3, 0}}},
		{reachedCase{pair, []int{1, 1, 1}, 100}, [][]int{{1, 1, 1}}},
		{reachedCase{pair, []int{0, 0, 0}, 100}, [][]int{{0, 0, 0}}},
		// Breadth first, each relation forwards and then backwards.
		{reachedCase{pair, []int{3, 2, 2}, 100}, [][]int{{3, 2, 2}, {0, 4, 2}, {6, 0, 2}, {0, 1, 4}, {6, 3, 0}, {3, 5, 0}, {9, 1, 0}, {0, 7, 0}}},
		{reachedCase{one, []int{3}, 6}, [][]int{{3}, {2}, {4}, {1}, {5}, {0}}},
		{reachedCase{one, []int{0}, 4}, [][]int{{0}, {1}, {2}, {3}}},
		// As many as most, fewer and one more than there are.
		{reachedCase{pair, []int{3, 1, 0}, 1}, [][]int{{3, 1, 0}}},
		{reachedCase{pair, []int{3, 1, 0}, 2}, [][]int{{3, 1, 0}, {0, 3, 0}}},
		{reachedCase{pair, []int{3, 1, 0}, 3}, [][]int{{3, 1, 0}, {0, 3, 0}, {0, 0, 2}}},
		{reachedCase{pair, []int{3, 1, 0}, 4}, [][]int{{3, 1, 0}, {0, 3, 0}, {0, 0, 2}}},
		{reachedCase{pair, []int{3, 1, 0}, 1000}, [][]int{{3, 1, 0}, {0, 3, 0}, {0, 0, 2}}},
		{reachedCase{pair, []int{3, 1, 0}, 1001}, nil},
		{reachedCase{pair, []int{3, 1, 0}, 0}, nil},
		{reachedCase{pair, []int{3, 1, 0}, -1}, nil},
		{reachedCase{pair, []int{3, 1, 0}, math.MinInt}, nil},
		{reachedCase{pair, []int{3, 1, 0}, math.MaxInt}, nil},
		{reachedCase{pair, []int{3, 1, 0}, 1<<32 + 3}, nil},
		// No relations, and those that fit to no list.
		{reachedCase{nil, []int{3, 1, 0}, 100}, [][]int{{3, 1, 0}}},
		{reachedCase{nil, nil, 1}, [][]int{nil}},
		{reachedCase{nil, nil, 0}, nil},
		{reachedCase{pair, []int{3, 1}, 100}, [][]int{{3, 1}}},
		{reachedCase{pair, nil, 100}, [][]int{nil}},
		{reachedCase{[]impl.Relation{{}}, nil, 100}, [][]int{nil}},
		{reachedCase{[]impl.Relation{{}}, []int{5}, 100}, [][]int{{5}}},
		{reachedCase{[]impl.Relation{{A: []int{1}}}, []int{5}, 100}, [][]int{{5}}},
		{reachedCase{[]impl.Relation{{A: []int{1}, B: []int{0}}, {A: []int{1, 0}, B: []int{0, 1}}}, []int{1, 1}, 100}, [][]int{{1, 1}, {0, 2}, {2, 0}}},
		// A relation and itself backwards, one twice, and one that changes nothing.
		{reachedCase{[]impl.Relation{{A: []int{2, 0}, B: []int{0, 1}}, {A: []int{0, 1}, B: []int{2, 0}}}, []int{2, 1}, 100}, [][]int{{2, 1}, {0, 2}, {4, 0}}},
		{reachedCase{[]impl.Relation{{A: []int{2, 0}, B: []int{0, 1}}, {A: []int{2, 0}, B: []int{0, 1}}}, []int{2, 1}, 100}, [][]int{{2, 1}, {0, 2}, {4, 0}}},
		{reachedCase{[]impl.Relation{{A: []int{1}, B: []int{1}}}, []int{2}, 100}, [][]int{{2}}},
		// A list that is reached by several ways.
		{reachedCase{[]impl.Relation{{A: []int{1, 0}, B: []int{0, 0}}, {A: []int{0, 1}, B: []int{0, 0}}}, []int{1, 1}, 6}, [][]int{{1, 1}, {0, 1}, {2, 1}, {1, 0}, {1, 2}, {0, 0}}},
		// Numbers below zero, and the integers at the ends.
		{reachedCase{one, []int{-1}, 3}, [][]int{{-1}}},
		{reachedCase{[]impl.Relation{{A: []int{-5}, B: []int{-7}}}, []int{-6}, 3}, [][]int{{-6}, {-4}, {-2}}},
		{reachedCase{[]impl.Relation{{A: []int{0}, B: []int{math.MaxInt}}}, []int{0}, 100}, [][]int{{0}, {math.MaxInt}, {-2}}},
		{reachedCase{[]impl.Relation{{A: []int{math.MinInt}, B: []int{0}}}, []int{math.MinInt}, 100}, [][]int{{math.MinInt}, {0}}},
	}
	for _, c := range cases {
		if byText := reachedByText(c.rels, c.list, c.most); !equalLists(byText, c.want) {
			t.Errorf("the test itself is wrong: %v, %d, %d: %d", c.rels, c.list, c.most, byText)
		}
		if got := impl.ReachedBy(c.rels, c.list, c.most); !equalLists(got, c.want) {
			t.Errorf("ReachedBy(%v, %d, %d) = %d; want %d", c.rels, c.list, c.most, got, c.want)
		}
	}
}

// TestReachedByMost has more lists than can be told.
func TestReachedByMost(t *testing.T) {
	free := []impl.Relation{{A: []int{1, 0}, B: []int{0, 0}}, {A: []int{0, 2}, B: []int{0, 1}}, {A: []int{3, 0}, B: []int{0, 4}}}
	for _, most := range []int{1, 2, 3, 10, 57, 999, 1000} {
		if got := (reachedCase{free, []int{2, 3}, most}).compare(t); len(got) != most {
			t.Errorf("ReachedBy gives %d lists; want %d", len(got), most)
		}
	}
}

// TestReachedByShortRelations takes all relations of two numbers up to 2, and
// pairs of some of them.
func TestReachedByShortRelations(t *testing.T) {
	lists := slices.DeleteFunc(shortLists(numbersFrom(0, 2), 2), func(list []int) bool { return len(list) < 2 })
	var rels []impl.Relation
	for _, a := range lists {
		for _, b := range lists {
			rels = append(rels, impl.Relation{A: a, B: b})
		}
	}
	for i, r := range rels {
		for _, list := range [][]int{{0, 0}, {1, 2}, {4, 0}, {3, 3}, {-1, 5}, {2}, {2, 2, 2}} {
			for _, most := range []int{1, 2, 5, 30} {
				reachedCase{[]impl.Relation{r}, list, most}.compare(t)
				reachedCase{[]impl.Relation{r, rels[(i*7+3)%len(rels)]}, list, most}.compare(t)
				reachedCase{[]impl.Relation{rels[(i*5+11)%len(rels)], r, r}, list, most}.compare(t)
			}
		}
	}
}

// TestReachedByPresentations compares the order for presentations too.
func TestReachedByPresentations(t *testing.T) {
	for _, gens := range [][]int{{3, 5}, {3, 4, 5}, {4, 6, 9}, {6, 10, 15}, {4, 5, 6, 7}, {5, 7, 9, 11}, {8, 9, 12}, numbersFrom(12, 23)} {
		relations, ok := presentationByText(gens)
		if !ok {
			t.Fatalf("the test itself is wrong: %d", gens)
		}
		for n := range 61 {
			found := factorizationsByText(gens, n)
			for i := 0; i < len(found); i += 1 + len(found)/4 {
				for _, most := range []int{1, 3, 10, 1000} {
					reachedCase{relations, found[i], most}.compare(t)
				}
			}
		}
	}
}

func TestPresentationsOfNoSemigroup(t *testing.T) {
	for _, gens := range append(invalidGens(), []int{48, 60}, []int{1, 1}) {
		s := impl.Semigroup{Gens: gens}
		for _, n := range factoredNumbers() {
			if got := impl.ClassesOf(s, n); len(got) > 0 {
				t.Errorf("ClassesOf(%d, %d), of no semigroup, = %d", gens, n, got)
			}
		}
		if got, ok := impl.BettiElements(s); len(got) > 0 || ok {
			t.Errorf("BettiElements(%d), of no semigroup, = %d, %v", gens, got, ok)
		}
		if got, ok := impl.PresentationOf(s); len(got) > 0 || ok {
			t.Errorf("PresentationOf(%d), of no semigroup, = %v, %v", gens, got, ok)
		}
	}
}

// classLists returns the lists of all classes.
func classLists(s impl.Semigroup, n int) [][]int { return slices.Concat(impl.ClassesOf(s, n)...) }

func bettiList(s impl.Semigroup) []int {
	list, _ := impl.BettiElements(s)
	return list
}

// relationLists returns the lists A and B of all relations of a presentation.
func relationLists(s impl.Semigroup) [][]int {
	relations, _ := impl.PresentationOf(s)
	var lists [][]int
	for _, r := range relations {
		lists = append(lists, r.A, r.B)
	}
	return lists
}

func TestPresentationCallsLeaveGens(t *testing.T) {
	calls := map[string]func(s impl.Semigroup){
		"ClassesOf":      func(s impl.Semigroup) { impl.ClassesOf(s, 60); impl.ClassesOf(s, 101) },
		"BettiElements":  func(s impl.Semigroup) { impl.BettiElements(s) },
		"PresentationOf": func(s impl.Semigroup) { impl.PresentationOf(s) },
	}
	for name, call := range calls {
		for _, gens := range append(presentedSemigroups(), invalidGens()...) {
			g := guard(gens)
			call(impl.Semigroup{Gens: g.list})
			g.check(t, name, gens)
		}
	}
}

func TestPresentationsAreNewMemory(t *testing.T) {
	for _, gens := range presentedSemigroups() {
		g := guard(gens)
		s := impl.Semigroup{Gens: g.list}
		unchanged := func() { g.check(t, "a call, or a change of its result,", gens) }
		for _, n := range []int{0, gens[0], 15, 18, 30, 36, 60, 100} {
			checkListsAreNewMemory(t, "ClassesOf", func() [][]int { return classLists(s, n) }, unchanged)
		}
		checkListsAreNewMemory(t, "PresentationOf", func() [][]int { return relationLists(s) }, unchanged)
		checkNewMemory(t, "BettiElements", gens, bettiList)
	}
}

// TestResultsOutliveGens changes Gens after the calls.
func TestResultsOutliveGens(t *testing.T) {
	for _, gens := range presentedSemigroups() {
		g := guard(gens)
		s := impl.Semigroup{Gens: g.list}
		classes, relations := classLists(s, 60), relationLists(s)
		wantClasses, wantRelations := copyOfLists(classes), copyOfLists(relations)
		scribble(g.whole)
		if !equalLists(classes, wantClasses) || !equalLists(relations, wantRelations) {
			t.Fatalf("results of %d are %d and %d after Gens were changed", gens, classes, relations)
		}
	}
}

// TestClassesAreNewMemory overwrites the classes, with their unused capacity,
// and looks at those that follow.
func TestClassesAreNewMemory(t *testing.T) {
	for _, gens := range presentedSemigroups() {
		for _, n := range []int{12, 15, 18, 30, 36, 60} {
			classes, want := impl.ClassesOf(impl.Semigroup{Gens: gens}, n), classesByText(gens, n)
			for i, class := range classes {
				whole := class[:cap(class)]
				for j := range whole {
					whole[j] = []int{-55}
				}
				if !equalClasses(classes[i+1:], want[i+1:]) {
					t.Fatalf("a change of one of ClassesOf(%d, %d) changes another one", gens, n)
				}
			}
		}
	}
}

// guardedRelations has lists with unused capacity.
type guardedRelations struct {
	rels  []impl.Relation
	parts []guarded
}

func guardRelations(rels []impl.Relation) guardedRelations {
	var g guardedRelations
	for _, r := range rels {
		a, b := guard(r.A), guard(r.B)
		g.parts = append(g.parts, a, b)
		g.rels = append(g.rels, impl.Relation{A: a.list, B: b.list})
	}
	whole := append(g.rels, impl.Relation{A: []int{97}})
	g.rels = whole[:len(rels)]
	return g
}

func (g guardedRelations) check(t *testing.T, name string, rels []impl.Relation) {
	t.Helper()
	for i, r := range rels {
		g.parts[2*i].check(t, name, r.A)
		g.parts[2*i+1].check(t, name, r.B)
	}
	if whole := g.rels[:len(rels)+1]; !equalRelations(whole, append(slices.Clone(rels), impl.Relation{A: []int{97}})) {
		t.Errorf("%s has changed the relations %v to %v", name, rels, whole)
	}
}

func (g guardedRelations) scribble() {
	for _, part := range g.parts {
		scribble(part.whole)
	}
}

// someRelations are lists of relations, those of different lengths included.
func someRelations() [][]impl.Relation {
	return [][]impl.Relation{
		nil,
		{{}},
		{{A: []int{1}, B: []int{0}}},
		{{A: []int{3, 0, 0}, B: []int{0, 2, 0}}, {A: []int{3, 1, 0}, B: []int{0, 0, 2}}},
		{{A: []int{5, 0}, B: []int{0, 3}}, {A: []int{1}, B: []int{0, 3}}, {A: []int{0, 3}, B: []int{5, 0}}},
		{{A: []int{0, 0}, B: []int{0, 0}}, {A: []int{1, 0}, B: []int{0, 0}}, {A: []int{-1, math.MinInt}, B: []int{math.MaxInt, 2}}},
	}
}

func someReachedLists() [][]int {
	return [][]int{nil, {0}, {7}, {3, 1, 0}, {3, 2, 2}, {10, 0}, {5, 6}, {-1, 4}, {math.MaxInt, math.MinInt}, {1, 2, 3, 4}}
}

func TestRelationCallsLeaveTheirArguments(t *testing.T) {
	for _, rels := range someRelations() {
		for _, list := range someReachedLists() {
			g, l := guardRelations(rels), guard(list)
			for _, most := range []int{-1, 0, 1, 20, 1000, 1001} {
				impl.ReachedBy(g.rels, l.list, most)
			}
			for _, r := range g.rels {
				impl.ApplyRelation(r, l.list)
			}
			g.check(t, "ReachedBy or ApplyRelation", rels)
			l.check(t, "ReachedBy or ApplyRelation", list)
		}
	}
}

func TestRelationResultsAreNewMemory(t *testing.T) {
	for _, rels := range someRelations() {
		for _, list := range someReachedLists() {
			g, l := guardRelations(rels), guard(list)
			unchanged := func() {
				g.check(t, "a call, or a change of its result,", rels)
				l.check(t, "a call, or a change of its result,", list)
			}
			call := func() [][]int { return impl.ReachedBy(g.rels, l.list, 30) }
			applied := func() [][]int {
				var lists [][]int
				for _, r := range g.rels {
					one, _ := impl.ApplyRelation(r, l.list)
					lists = append(lists, one)
				}
				return lists
			}
			checkListsAreNewMemory(t, "ReachedBy", call, unchanged)
			checkListsAreNewMemory(t, "ApplyRelation", applied, unchanged)
			reached, ones := call(), applied()
			wantReached, wantOnes := copyOfLists(reached), copyOfLists(ones)
			g.scribble()
			scribble(l.whole)
			if !equalLists(reached, wantReached) || !equalLists(ones, wantOnes) {
				t.Fatalf("%v lead from %d to %d, and to %d in one step, after both were changed", rels, list, reached, ones)
			}
		}
	}
}
