package tests

import (
	"math"
	"runtime"
	"slices"
	"testing"

	"loop.example/g00595/impl"
)

// Promise 20: every semigroup is a child of its parent.

func parentByText(gens []int) ([]int, bool) {
	if !isSemigroupByText(gens) || gens[0] == 1 {
		return nil, false
	}
	gaps := gapFactsByText(gens).gaps
	return fromGapsByText(gaps[:len(gaps)-1])
}

// childrenByText is true, without any, where no generator is great enough.
func childrenByText(gens []int) ([][]int, bool) {
	if !isSemigroupByText(gens) {
		return nil, false
	}
	greatest := gapFactsByText(gens).frobenius
	var lists [][]int
	for _, g := range gens {
		if g <= greatest {
			continue
		}
		child, ok := removeByText(gens, g)
		if !ok {
			return nil, false
		}
		lists = append(lists, child)
	}
	return lists, true
}

// pathByText starts at the end of the path.
func pathByText(gens []int) ([][]int, bool) {
	if !isSemigroupByText(gens) {
		return nil, false
	}
	path := [][]int{gens}
	for gens[0] > 1 {
		parent, ok := parentByText(gens)
		if !ok {
			return nil, false
		}
		gens = parent
		path = append([][]int{gens}, path...)
	}
	return path, true
}

func genusByText(genus int) [][]int {
	if genus < 0 || genus > 8 {
		return nil
	}
	var lists [][]int
	for _, k := range knownByGenus()[genus] {
		lists = append(lists, k.gens)
	}
	return lists
}

// treeFacts is what chapter 20 says of a semigroup.
type treeFacts struct {
	parent                          []int
	children, path                  [][]int
	hasParent, hasChildren, hasPath bool
}

func treeFactsByText(gens []int) treeFacts {
	var f treeFacts
	f.parent, f.hasParent = parentByText(gens)
	f.children, f.hasChildren = childrenByText(gens)
	f.path, f.hasPath = pathByText(gens)
	return f
}

func treeFactsOf(gens []int) treeFacts {
	s := impl.Semigroup{Gens: gens}
	parent, hasParent := impl.ParentOf(s)
	children, hasChildren := impl.ChildrenOf(s)
	path, hasPath := impl.PathTo(s)
	return treeFacts{parent.Gens, gensOf(children), gensOf(path), hasParent, hasChildren, hasPath}
}

func (f treeFacts) equals(g treeFacts) bool {
	return slices.Equal(f.parent, g.parent) && equalLists(f.children, g.children) && equalLists(f.path, g.path) &&
		f.hasParent == g.hasParent && f.hasChildren == g.hasChildren && f.hasPath == g.hasPath
}

func compareTree(t *testing.T, gens []int) treeFacts {
	t.Helper()
	got, want := treeFactsOf(gens), treeFactsByText(gens)
	if !got.equals(want) {
		t.Fatalf("the parent, the children and the path of %d are %v; want %v", gens, got, want)
	}
	return got
}

func TestTreeOfSemigroups(t *testing.T) {
	cases := []struct {
		gens []int
		want treeFacts
	}{
		// The semigroup without gaps has no parent, and one child.
		{[]int{1}, treeFacts{nil, [][]int{{2, 3}}, [][]int{{1}}, false, true, true}},
		{[]int{2, 3}, treeFacts{[]int{1}, [][]int{{3, 4, 5}, {2, 5}}, [][]int{{1}, {2, 3}}, true, true, true}},
		{[]int{2, 5}, treeFacts{[]int{2, 3}, [][]int{{2, 7}}, [][]int{{1}, {2, 3}, {2, 5}}, true, true, true}},
		{[]int{3, 4, 5}, treeFacts{[]int{2, 3}, [][]int{{4, 5, 6, 7}, {3, 5, 7}, {3, 4}}, [][]int{{1}, {2, 3}, {3, 4, 5}}, true, true, true}},
		{[]int{3, 5, 7}, treeFacts{[]int{3, 4, 5}, [][]int{{3, 7, 8}, {3, 5}}, [][]int{{1}, {2, 3}, {3, 4, 5}, {3, 5, 7}}, true, true, true}},
		// No children.
		{[]int{3, 4}, treeFacts{[]int{3, 4, 5}, nil, [][]int{{1}, {2, 3}, {3, 4, 5}, {3, 4}}, true, true, true}},
		{[]int{3, 5}, treeFacts{[]int{3, 5, 7}, nil, [][]int{{1}, {2, 3}, {3, 4, 5}, {3, 5, 7}, {3, 5}}, true, true, true}},
		{[]int{4, 6, 9}, treeFacts{[]int{4, 6, 9, 11}, nil, [][]int{
			{1}, {2, 3}, {3, 4, 5}, {4, 5, 6, 7}, {4, 6, 7, 9}, {4, 6, 9, 11}, {4, 6, 9},
		}, true, true, true}},
		// Parents with 12 Gens, and with 13.
		{numbersFrom(20, 30), treeFacts{append(numbersFrom(20, 30), 39), nil, nil, true, true, false}},
		{numbersFrom(20, 31), treeFacts{nil, nil, nil, false, true, false}},
		{append(numbersFrom(20, 30), 39), treeFacts{nil, [][]int{numbersFrom(20, 30)}, nil, false, true, false}},
		// Parents with a generator of 61 and of more.
		{[]int{3, 32}, treeFacts{nil, nil, nil, false, true, false}},
		{[]int{5, 51}, treeFacts{nil, nil, nil, false, true, false}},
		{[]int{9, 26}, treeFacts{nil, nil, nil, false, true, false}},
		// No semigroup.
		{nil, treeFacts{}},
		{[]int{0}, treeFacts{}},
		{[]int{2}, treeFacts{}},
		{[]int{5, 3}, treeFacts{}},
		{[]int{3, 5, 8}, treeFacts{}},
		{[]int{2, 61}, treeFacts{}},
	}
	for _, c := range cases {
		if byText := treeFactsByText(c.gens); !byText.equals(c.want) {
			t.Errorf("the test itself is wrong: %d: %v", c.gens, byText)
		}
		if got := treeFactsOf(c.gens); !got.equals(c.want) {
			t.Errorf("the parent, the children and the path of %d are %v; want %v", c.gens, got, c.want)
		}
	}
}

// TestChildrenBeyondLimits has semigroups of which one child, or the only one,
// has too many or too great Gens, and others for which it is just not so.
func TestChildrenBeyondLimits(t *testing.T) {
	cases := []struct {
		gens  []int
		count int
		ok    bool
	}{
		{allFrom(11), 11, true},
		{allFrom(12), 0, false},
		{[]int{2, 57}, 1, true},
		{[]int{2, 59}, 0, false},
	}
	for _, c := range cases {
		if byText, ok := childrenByText(c.gens); len(byText) != c.count || ok != c.ok {
			t.Errorf("the test itself is wrong: %d: %d, %v", c.gens, byText, ok)
		}
		if got, ok := impl.ChildrenOf(impl.Semigroup{Gens: c.gens}); len(got) != c.count || ok != c.ok {
			t.Errorf("ChildrenOf(%d) = %d, %v; want %d of them, %v", c.gens, gensOf(got), ok, c.count, c.ok)
		}
		compareTree(t, c.gens)
	}
	without12 := 0
	for _, g := range allFrom(12) {
		if _, ok := impl.RemoveGenerator(impl.Semigroup{Gens: allFrom(12)}, g); ok {
			without12++
		}
	}
	if without12 != 11 {
		t.Errorf("the test itself is wrong: %d generators can be removed", without12)
	}
}

// wideSemigroups have so many Gens that their parents, or those of their
// parents, have about as many as are possible.
func wideSemigroups() [][]int {
	var lists [][]int
	for first := 14; first <= 24; first++ {
		for count := 8; count <= 13; count++ {
			if gens := numbersFrom(first, first+count-1); isSemigroupByText(gens) {
				lists = append(lists, gens)
			}
		}
	}
	return lists
}

func TestTreeOfSomeSemigroups(t *testing.T) {
	count := map[string]int{}
	for _, gens := range slices.Concat(factoredSemigroups(), smallSemigroups(9), wideSemigroups(), invalidGens()) {
		f := compareTree(t, gens)
		switch {
		case !isSemigroupByText(gens):
			count["none"]++
		case !f.hasParent:
			count["no parent"]++
		case !f.hasPath:
			count["a parent, but no path"]++
		case !f.hasChildren:
			count["a child beyond the limits"]++
		case len(f.children) == 0:
			count["no children"]++
		default:
			count["children"]++
		}
	}
	if count["none"] < 20 || count["no parent"] < 10 || count["a parent, but no path"] < 3 || count["a child beyond the limits"] < 2 || count["no children"] < 50 || count["children"] < 100 {
		t.Errorf("the test itself is wrong: %v", count)
	}
}

// isAmong tells whether the Gens are those of one in the list.
func isAmong(list []impl.Semigroup, gens []int) bool {
	return slices.ContainsFunc(list, func(s impl.Semigroup) bool { return slices.Equal(s.Gens, gens) })
}

func TestEverySemigroupIsChildOfItsParent(t *testing.T) {
	for _, gens := range append(smallSemigroups(9), factoredSemigroups()...) {
		s := impl.Semigroup{Gens: gens}
		parent, ok := impl.ParentOf(s)
		if !ok {
			continue
		}
		if impl.GenusOf(parent) != impl.GenusOf(s)-1 || !impl.IsWithin(s, parent) {
			t.Fatalf("ParentOf(%d) = %d", gens, parent.Gens)
		}
		if again, ok := impl.RemoveGenerator(parent, impl.FrobeniusOf(s)); !ok || !slices.Equal(again.Gens, gens) {
			t.Fatalf("ParentOf(%d) = %d, but without the greatest gap %d, %v", gens, parent.Gens, again.Gens, ok)
		}
		children, ok := impl.ChildrenOf(parent)
		if _, byText := childrenByText(parent.Gens); ok != byText || ok && !isAmong(children, gens) {
			t.Fatalf("ParentOf(%d) = %d with the children %d, %v", gens, parent.Gens, gensOf(children), ok)
		}
		if !ok && impl.GenusOf(s) <= 9 {
			t.Fatalf("ChildrenOf(%d), of a genus up to 8, fails", parent.Gens)
		}
	}
}

func TestEveryChildHasItsParent(t *testing.T) {
	for _, gens := range append(smallSemigroups(9), factoredSemigroups()...) {
		s := impl.Semigroup{Gens: gens}
		children, _ := impl.ChildrenOf(s)
		for _, child := range children {
			if parent, ok := impl.ParentOf(child); !ok || !slices.Equal(parent.Gens, gens) || impl.GenusOf(child) != impl.GenusOf(s)+1 {
				t.Fatalf("%d is one of ChildrenOf(%d), but its parent is %d, %v", child.Gens, gens, parent.Gens, ok)
			}
		}
	}
}

func TestAllOfGenus(t *testing.T) {
	if impl.MaxTree != 8 {
		t.Errorf("MaxTree = %d", impl.MaxTree)
	}
	counts := []int{1, 1, 2, 4, 7, 12, 23, 39, 67}
	numbers := append(numbersFrom(-3, 12), math.MinInt, math.MinInt+1, -1<<32, 60, 1<<32, 1<<32+3, math.MaxInt-1, math.MaxInt)
	for _, genus := range numbers {
		count := -1
		if genus >= 0 && genus < len(counts) {
			count = counts[genus]
		}
		if got := impl.CountGenus(genus); got != count {
			t.Errorf("CountGenus(%d) = %d; want %d", genus, got, count)
		}
		got := impl.AllOfGenus(genus)
		if !equalLists(gensOf(got), genusByText(genus)) || len(got) != max(0, count) {
			t.Errorf("AllOfGenus(%d) = %d; want %d", genus, gensOf(got), genusByText(genus))
		}
		for i, s := range got {
			if impl.GenusOf(s) != genus || i > 0 && slices.Compare(impl.Gaps(got[i-1]), impl.Gaps(s)) >= 0 {
				t.Errorf("AllOfGenus(%d) has %d where it should not stand", genus, s.Gens)
			}
		}
	}
}

func TestAllOfGenusTexts(t *testing.T) {
	for genus, want := range []string{
		"<1>",
		"<2,3>",
		"<3,4,5> <2,5>",
		"<4,5,6,7> <3,5,7> <3,4> <2,7>",
		"<5,6,7,8,9> <4,6,7,9> <4,5,7> <4,5,6> <3,7,8> <3,5> <2,9>",
	} {
		var texts []string
		for _, s := range impl.AllOfGenus(genus) {
			texts = append(texts, impl.SemigroupText(s))
		}
		if got := impl.Join(texts, " "); got != want {
			t.Errorf("AllOfGenus(%d) is %s; want %s", genus, got, want)
		}
	}
}

// TestAllOfGenusByChildren: the children of all are all of the next genus.
func TestAllOfGenusByChildren(t *testing.T) {
	for genus := range 8 {
		var lists [][]int
		for _, s := range impl.AllOfGenus(genus) {
			children, ok := impl.ChildrenOf(s)
			if !ok {
				t.Fatalf("ChildrenOf(%d) fails", s.Gens)
			}
			lists = append(lists, gensOf(children)...)
		}
		slices.SortFunc(lists, func(a []int, b []int) int { return slices.Compare(gapFactsByText(a).gaps, gapFactsByText(b).gaps) })
		if got := impl.AllOfGenus(genus + 1); !equalLists(gensOf(got), lists) {
			t.Errorf("AllOfGenus(%d) = %d; want %d", genus+1, gensOf(got), lists)
		}
	}
}

// TestPathTo also takes long paths, and such on which one semigroup has too many
// Gens or too great ones, although the parent is found.
func TestPathTo(t *testing.T) {
	cases := []struct {
		gens   []int
		length int
	}{
		{[]int{1}, 1},
		{[]int{2, 3}, 2},
		{[]int{2, 59}, 30},
		{[]int{3, 31}, 31},
		// A generator of 60 on the way.
		{[]int{7, 17, 33}, 34},
		{[]int{6, 9, 20}, 23},
		{[]int{10, 11, 12, 13}, 19},
		{allFrom(12), 12},
		{[]int{4, 21}, 31},
		// Too many Gens.
		{numbersFrom(20, 30), 0},
		{numbersFrom(20, 31), 0},
		{[]int{20, 21, 22, 23, 24, 25, 26, 27, 28, 29}, 0},
		// Too great ones.
		{[]int{3, 32}, 0},
		{[]int{7, 17, 60}, 0},
		{[]int{5, 51}, 0},
	}
	for _, c := range cases {
		path, ok := impl.PathTo(impl.Semigroup{Gens: c.gens})
		if len(path) != c.length || ok != (c.length > 0) {
			t.Errorf("PathTo(%d) has %d semigroups, %v; want %d", c.gens, len(path), ok, c.length)
		}
		if !ok {
			compareTree(t, c.gens)
			continue
		}
		if !slices.Equal(path[0].Gens, []int{1}) || !slices.Equal(path[len(path)-1].Gens, c.gens) {
			t.Errorf("PathTo(%d) goes from %d to %d", c.gens, path[0].Gens, path[len(path)-1].Gens)
		}
		for i := 1; i < len(path); i++ {
			if parent, ok := impl.ParentOf(path[i]); !ok || !slices.Equal(parent.Gens, path[i-1].Gens) {
				t.Errorf("on PathTo(%d), before %d stands %d", c.gens, path[i].Gens, path[i-1].Gens)
			}
		}
	}
}

func TestTreeOfNoSemigroup(t *testing.T) {
	for _, gens := range append(invalidGens(), []int{48, 60}, []int{1, 1}) {
		if got := treeFactsOf(gens); !got.equals(treeFacts{}) {
			t.Errorf("the parent, the children and the path of %d, which is no semigroup, are %v", gens, got)
		}
	}
}

func treeCalls() map[string]func(s impl.Semigroup) []impl.Semigroup {
	return map[string]func(s impl.Semigroup) []impl.Semigroup{
		"ParentOf": func(s impl.Semigroup) []impl.Semigroup {
			parent, _ := impl.ParentOf(s)
			return []impl.Semigroup{parent}
		},
		"ChildrenOf": func(s impl.Semigroup) []impl.Semigroup {
			children, _ := impl.ChildrenOf(s)
			return children
		},
		"PathTo": func(s impl.Semigroup) []impl.Semigroup {
			path, _ := impl.PathTo(s)
			return path
		},
		"AllOfGenus": func(s impl.Semigroup) []impl.Semigroup { return impl.AllOfGenus(len(s.Gens)) },
	}
}

func TestTreeCallsLeaveGens(t *testing.T) {
	checkCallsLeaveGens(t, treeCalls(), slices.Concat(factoredSemigroups(), smallSemigroups(6), invalidGens()))
}

func TestTreeResultsAreNewMemory(t *testing.T) {
	for name, call := range treeCalls() {
		for _, gens := range append(factoredSemigroups(), smallSemigroups(6)...) {
			checkSemigroupsAreNewMemory(t, name, gens, call)
		}
	}
}

func TestTreeCallsLeaveNoGoroutine(t *testing.T) {
	before := runtime.NumGoroutine()
	for _, gens := range [][]int{{1}, {3, 5}, allFrom(11), allFrom(12), {2, 59}, {2}, nil} {
		impl.ChildrenOf(impl.Semigroup{Gens: gens})
	}
	impl.AllOfGenus(8)
	checkNoGoroutineGoesOn(t, before, "ChildrenOf and AllOfGenus")
}

// TestTreeAgain: whichever goroutine is first, the result is the same.
func TestTreeAgain(t *testing.T) {
	want := gensOf(impl.AllOfGenus(7))
	for range 30 {
		if got := gensOf(impl.AllOfGenus(7)); !equalLists(got, want) {
			t.Fatalf("AllOfGenus(7) = %d; before, it was %d", got, want)
		}
	}
}
