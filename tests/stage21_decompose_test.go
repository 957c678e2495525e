package tests

import (
	"slices"
	"testing"

	"loop.example/g00595/impl"
)

// Promise 21: the common part of a decomposition is the semigroup, and none of
// its parts can be left out.

func irreducibleByText(gens []int) ([][]int, bool) {
	larger, ok := largerByText(gens)
	if !ok {
		return nil, false
	}
	return slices.DeleteFunc(larger, func(over []int) bool { return !symmetryFactsByText(over).irreducible }), true
}

// indexLists returns the ascending lists of count indices below n, in order.
func indexLists(n int, count int) [][]int {
	if count == 0 {
		return [][]int{nil}
	}
	var lists [][]int
	for first := range n {
		for _, rest := range indexLists(n-first-1, count-1) {
			list := []int{first}
			for _, i := range rest {
				list = append(list, first+1+i)
			}
			lists = append(lists, list)
		}
	}
	return lists
}

// decompositionsByText returns all decompositions with as few parts as
// possible, in order.
func decompositionsByText(gens []int) [][][]int {
	overs, ok := irreducibleByText(gens)
	if !ok {
		return nil
	}
	var gaps [][]int
	for _, over := range overs {
		gaps = append(gaps, gapFactsByText(over).gaps)
	}
	all := gapFactsByText(gens).gaps
	var found [][][]int
	for count := 1; len(found) == 0; count++ {
		for _, indices := range indexLists(len(overs), count) {
			var parts [][]int
			set := map[int]bool{}
			for _, i := range indices {
				parts = append(parts, overs[i])
				for _, gap := range gaps[i] {
					set[gap] = true
				}
			}
			if slices.Equal(inOrder(set), all) {
				found = append(found, parts)
			}
		}
	}
	return found
}

// decompositionByText is false where there is no decomposition.
func decompositionByText(gens []int) ([][]int, bool) {
	found := decompositionsByText(gens)
	if len(found) == 0 {
		return nil, false
	}
	return found[0], true
}

func meetOfAllByText(lists [][]int) ([]int, bool) {
	if len(lists) == 0 || !isSemigroupByText(lists[0]) {
		return nil, false
	}
	meet, ok := lists[0], true
	for _, gens := range lists[1:] {
		meet, ok = meetByText(meet, gens)
		if !ok {
			return nil, false
		}
	}
	return meet, ok
}

func semigroupsOf(lists [][]int) []impl.Semigroup {
	var list []impl.Semigroup
	for _, gens := range lists {
		list = append(list, impl.Semigroup{Gens: gens})
	}
	return list
}

func compareDecomposition(t *testing.T, gens []int) [][]int {
	t.Helper()
	s := impl.Semigroup{Gens: gens}
	overs, ok := impl.IrreducibleOvers(s)
	if want, wantOK := irreducibleByText(gens); !equalLists(gensOf(overs), want) || ok != wantOK {
		t.Fatalf("IrreducibleOvers(%d) = %d, %v; want %d, %v", gens, gensOf(overs), ok, want, wantOK)
	}
	parts, ok := impl.DecompositionOf(s)
	if want, wantOK := decompositionByText(gens); !equalLists(gensOf(parts), want) || ok != wantOK {
		t.Fatalf("DecompositionOf(%d) = %d, %v; want %d, %v", gens, gensOf(parts), ok, want, wantOK)
	}
	return gensOf(parts)
}

func compareMeetOfAll(t *testing.T, lists [][]int) ([]int, bool) {
	t.Helper()
	got, ok := impl.MeetOfAll(semigroupsOf(lists))
	want, wantOK := meetOfAllByText(lists)
	if !slices.Equal(got.Gens, want) || ok != wantOK {
		t.Fatalf("MeetOfAll(%d) = %d, %v; want %d, %v", lists, got.Gens, ok, want, wantOK)
	}
	return got.Gens, ok
}

func TestDecompositionsOfSemigroups(t *testing.T) {
	cases := []struct {
		gens         []int
		overs, parts [][]int
	}{
		// The semigroup without gaps, and other irreducible ones.
		{[]int{1}, [][]int{{1}}, [][]int{{1}}},
		{[]int{2, 3}, [][]int{{1}, {2, 3}}, [][]int{{2, 3}}},
		{[]int{3, 4, 5}, [][]int{{1}, {2, 3}, {3, 4, 5}}, [][]int{{3, 4, 5}}},
		{[]int{3, 5, 7}, [][]int{{1}, {2, 3}, {3, 4, 5}, {3, 5, 7}}, [][]int{{3, 5, 7}}},
		{[]int{3, 5}, [][]int{{1}, {2, 3}, {3, 4, 5}, {3, 5, 7}, {3, 5}}, [][]int{{3, 5}}},
		{[]int{2, 19}, [][]int{{1}, {2, 3}, {2, 5}, {2, 7}, {2, 9}, {2, 11}, {2, 13}, {2, 15}, {2, 17}, {2, 19}}, [][]int{{2, 19}}},
		// Two parts.
		{[]int{4, 5, 6, 7}, [][]int{{1}, {2, 3}, {3, 4, 5}, {2, 5}}, [][]int{{3, 4, 5}, {2, 5}}},
		{[]int{3, 7, 8}, [][]int{{1}, {2, 3}, {3, 4, 5}, {3, 5, 7}, {3, 4}}, [][]int{{3, 5, 7}, {3, 4}}},
		// Genus 9.
		{allFrom(10), [][]int{
			{1}, {2, 3}, {3, 4, 5}, {2, 5}, {3, 5, 7}, {3, 4}, {2, 7}, {4, 5, 7}, {4, 5, 6}, {3, 5}, {2, 9},
			{5, 6, 7, 9}, {5, 6, 7, 8}, {4, 6, 7}, {3, 7, 11}, {2, 11},
		}, [][]int{{4, 5, 7}, {5, 6, 7, 9}, {2, 11}}},
		// Genus 10.
		{[]int{2, 21}, nil, nil},
		{[]int{3, 11}, nil, nil},
		{allFrom(11), nil, nil},
		{[]int{6, 9, 20}, nil, nil},
		// No semigroup.
		{nil, nil, nil},
		{[]int{0}, nil, nil},
		{[]int{2}, nil, nil},
		{[]int{5, 3}, nil, nil},
		{[]int{3, 5, 8}, nil, nil},
		{[]int{2, 61}, nil, nil},
	}
	for _, c := range cases {
		overs, _ := irreducibleByText(c.gens)
		parts, _ := decompositionByText(c.gens)
		if !equalLists(overs, c.overs) || !equalLists(parts, c.parts) {
			t.Errorf("the test itself is wrong: %d: %d, %d", c.gens, overs, parts)
		}
		s := impl.Semigroup{Gens: c.gens}
		if got, ok := impl.IrreducibleOvers(s); !equalLists(gensOf(got), c.overs) || ok != (len(c.overs) > 0) {
			t.Errorf("IrreducibleOvers(%d) = %d, %v; want %d", c.gens, gensOf(got), ok, c.overs)
		}
		if got, ok := impl.DecompositionOf(s); !equalLists(gensOf(got), c.parts) || ok != (len(c.parts) > 0) {
			t.Errorf("DecompositionOf(%d) = %d, %v; want %d", c.gens, gensOf(got), ok, c.parts)
		}
	}
}

func TestDecompositionsOfAll(t *testing.T) {
	counts := map[int]int{}
	for _, gens := range slices.Concat(smallSemigroups(9), factoredSemigroups(), invalidGens()) {
		counts[len(compareDecomposition(t, gens))]++
	}
	for count, least := range []int{50, 50, 50, 10} {
		if counts[count] < least {
			t.Errorf("the test itself is wrong: %v", counts)
		}
	}
}

// TestCommonPartOfDecompositions takes the parts together, and all but one.
func TestCommonPartOfDecompositions(t *testing.T) {
	for _, gens := range smallSemigroups(9) {
		s := impl.Semigroup{Gens: gens}
		parts, ok := impl.DecompositionOf(s)
		if meet, fine := impl.MeetOfAll(parts); !ok || !fine || !slices.Equal(meet.Gens, gens) {
			t.Fatalf("the common part of DecompositionOf(%d) is %d, %v", gens, meet.Gens, fine)
		}
		if impl.IsIrreducible(s) != (len(parts) == 1 && slices.Equal(parts[0].Gens, gens)) {
			t.Fatalf("DecompositionOf(%d) = %d", gens, gensOf(parts))
		}
		for i, part := range parts {
			if !impl.IsIrreducible(part) || !impl.IsWithin(s, part) {
				t.Fatalf("%d is a part of DecompositionOf(%d)", part.Gens, gens)
			}
			others := slices.Delete(slices.Clone(parts), i, i+1)
			if meet, fine := impl.MeetOfAll(others); fine && slices.Equal(meet.Gens, gens) {
				t.Fatalf("of DecompositionOf(%d), %d can be left out", gens, part.Gens)
			}
		}
	}
}

// TestFirstOfSeveralDecompositions takes those that have others that are just as
// short: the one that is returned is the first one.
func TestFirstOfSeveralDecompositions(t *testing.T) {
	several := 0
	for _, gens := range smallSemigroups(9) {
		all := decompositionsByText(gens)
		if len(all) < 2 {
			continue
		}
		several++
		parts, _ := impl.DecompositionOf(impl.Semigroup{Gens: gens})
		if !equalLists(gensOf(parts), all[0]) {
			t.Fatalf("DecompositionOf(%d) = %d; want %d, the first one of %d", gens, gensOf(parts), all[0], all)
		}
		for _, other := range all[1:] {
			if equalLists(other, all[0]) || len(other) != len(parts) {
				t.Fatalf("the test itself is wrong: %d has %d", gens, all)
			}
			if meet, ok := impl.MeetOfAll(semigroupsOf(other)); !ok || !slices.Equal(meet.Gens, gens) {
				t.Fatalf("%d has the common part %d, %v; want %d", other, meet.Gens, ok, gens)
			}
		}
	}
	if several < 50 {
		t.Errorf("the test itself is wrong: %d semigroups with several decompositions", several)
	}
}

// meetCase is a list of semigroups and the Gens of their common part, if any.
type meetCase struct {
	lists [][]int
	want  []int
}

func TestMeetOfAll(t *testing.T) {
	nine := []int{9, 13, 14, 15, 16, 17, 19, 20, 21}
	cases := []meetCase{
		{nil, nil},
		{[][]int{}, nil},
		// One.
		{[][]int{{1}}, []int{1}},
		{[][]int{{3, 5}}, []int{3, 5}},
		{[][]int{{5, 51}}, []int{5, 51}},
		{[][]int{allFrom(12)}, allFrom(12)},
		// Two.
		{[][]int{{2, 5}, {3, 4, 5}}, []int{4, 5, 6, 7}},
		{[][]int{{3, 4, 5}, {2, 5}}, []int{4, 5, 6, 7}},
		{[][]int{{3, 5}, {3, 5}}, []int{3, 5}},
		{[][]int{{1}, {1}}, []int{1}},
		{[][]int{{1}, {3, 5}}, []int{3, 5}},
		{[][]int{{3, 5}, {1}}, []int{3, 5}},
		{[][]int{{3, 5}, {4, 6, 9}}, []int{6, 8, 9, 10, 13}},
		// More.
		{[][]int{{2, 3}, {2, 5}, {2, 7}}, []int{2, 7}},
		{[][]int{{2, 7}, {2, 3}, {2, 5}}, []int{2, 7}},
		{[][]int{{2, 5}, {3, 4, 5}, {5, 6, 7, 8, 9}}, []int{5, 6, 7, 8, 9}},
		{[][]int{{2, 5}, {3, 4}, {3, 5}}, []int{6, 8, 9, 10, 11, 13}},
		{[][]int{{1}, {2, 3}, {3, 4, 5}, {4, 5, 6, 7}, {5, 6, 7, 8, 9}}, []int{5, 6, 7, 8, 9}},
		// One that is no semigroup at each place.
		{[][]int{nil}, nil},
		{[][]int{{2}}, nil},
		{[][]int{nil, {3, 5}}, nil},
		{[][]int{{3, 5}, nil}, nil},
		{[][]int{{5, 3}, {3, 5}, {2, 3}}, nil},
		{[][]int{{3, 5}, {5, 3}, {2, 3}}, nil},
		{[][]int{{3, 5}, {2, 3}, {5, 3}}, nil},
		{[][]int{{3, 5, 8}, {3, 5}, {2, 3}, {1}}, nil},
		{[][]int{{3, 5}, {2, 3}, {2, 61}, {1}}, nil},
		{[][]int{nil, nil, nil}, nil},
		// Too many Gens on the way, at the end, and not so in another order.
		{[][]int{allFrom(12), nine}, nil},
		{[][]int{allFrom(12), nine, numbersFrom(20, 31)}, nil},
		{[][]int{nine, allFrom(12), numbersFrom(20, 31)}, nil},
		{[][]int{allFrom(12), numbersFrom(20, 31), nine}, numbersFrom(20, 31)},
		{[][]int{numbersFrom(20, 31), nine, allFrom(12)}, numbersFrom(20, 31)},
		{[][]int{{2, 3}, allFrom(12), nine}, nil},
		// Too great ones, likewise.
		{[][]int{{3, 17}, {3, 31}}, nil},
		{[][]int{{3, 17}, {3, 31}, {9, 51}}, nil},
		{[][]int{{2, 59}, {3, 59}, {1}}, nil},
	}
	for _, c := range cases {
		if byText, ok := meetOfAllByText(c.lists); !slices.Equal(byText, c.want) || ok != (len(c.want) > 0) {
			t.Errorf("the test itself is wrong: %d: %d", c.lists, byText)
		}
		if got, ok := impl.MeetOfAll(semigroupsOf(c.lists)); !slices.Equal(got.Gens, c.want) || ok != (len(c.want) > 0) {
			t.Errorf("MeetOfAll(%d) = %d, %v; want %d", c.lists, got.Gens, ok, c.want)
		}
	}
}

// TestMeetOfAllLists takes lists of up to three of some semigroups, of what is
// none and of such with many Gens.
func TestMeetOfAllLists(t *testing.T) {
	some := [][]int{{1}, {3, 5}, {4, 6, 9}, {2, 21}, {6, 9, 20}, allFrom(12), {9, 13, 14, 15, 16, 17, 19, 20, 21}, numbersFrom(20, 31), {2}, nil}
	count := map[bool]int{}
	for _, indices := range shortLists(numbersFrom(0, len(some)-1), 3) {
		var lists [][]int
		for _, i := range indices {
			lists = append(lists, some[i])
		}
		_, ok := compareMeetOfAll(t, lists)
		count[ok]++
	}
	if count[true] < 200 || count[false] < 200 {
		t.Errorf("the test itself is wrong: %v", count)
	}
}

// TestMeetOfAllOfNoSemigroup puts what is no semigroup at each place.
func TestMeetOfAllOfNoSemigroup(t *testing.T) {
	for _, gens := range append(invalidGens(), []int{48, 60}, []int{1, 1}) {
		for count := 1; count <= 4; count++ {
			for place := range count {
				lists := slices.Repeat([][]int{{3, 5}}, count)
				lists[place] = gens
				if got, ok := impl.MeetOfAll(semigroupsOf(lists)); len(got.Gens) > 0 || ok {
					t.Errorf("MeetOfAll(%d) = %d, %v", lists, got.Gens, ok)
				}
			}
		}
	}
}

func TestDecompositionsOfNoSemigroup(t *testing.T) {
	for _, gens := range append(invalidGens(), []int{48, 60}, []int{1, 1}) {
		s := impl.Semigroup{Gens: gens}
		if got, ok := impl.IrreducibleOvers(s); len(got) > 0 || ok {
			t.Errorf("IrreducibleOvers(%d), of no semigroup, = %d, %v", gens, gensOf(got), ok)
		}
		if got, ok := impl.DecompositionOf(s); len(got) > 0 || ok {
			t.Errorf("DecompositionOf(%d), of no semigroup, = %d, %v", gens, gensOf(got), ok)
		}
	}
}

func decompositionCalls() map[string]func(s impl.Semigroup) []impl.Semigroup {
	return map[string]func(s impl.Semigroup) []impl.Semigroup{
		"IrreducibleOvers": func(s impl.Semigroup) []impl.Semigroup {
			overs, _ := impl.IrreducibleOvers(s)
			return overs
		},
		"DecompositionOf": func(s impl.Semigroup) []impl.Semigroup {
			parts, _ := impl.DecompositionOf(s)
			return parts
		},
		"MeetOfAll of one": func(s impl.Semigroup) []impl.Semigroup {
			meet, _ := impl.MeetOfAll([]impl.Semigroup{s})
			return []impl.Semigroup{meet}
		},
		"MeetOfAll of one twice": func(s impl.Semigroup) []impl.Semigroup {
			meet, _ := impl.MeetOfAll([]impl.Semigroup{s, s})
			return []impl.Semigroup{meet}
		},
	}
}

func TestDecompositionCallsLeaveGens(t *testing.T) {
	checkCallsLeaveGens(t, decompositionCalls(), slices.Concat(factoredSemigroups(), smallSemigroups(7), invalidGens()))
}

func TestDecompositionsAreNewMemory(t *testing.T) {
	for name, call := range decompositionCalls() {
		for _, gens := range append(factoredSemigroups(), smallSemigroups(7)...) {
			checkSemigroupsAreNewMemory(t, name, gens, call)
		}
	}
}

// TestMeetOfAllLeavesItsList also looks at the unused capacity of the list.
func TestMeetOfAllLeavesItsList(t *testing.T) {
	for _, lists := range [][][]int{nil, {{3, 5}}, {{2, 5}, {3, 4, 5}}, {{2, 3}, {2, 5}, {2, 7}}, {{3, 5}, nil}, {{2}, {3, 5}}} {
		whole := append(semigroupsOf(lists), impl.Semigroup{Gens: []int{97}}, impl.Semigroup{Gens: []int{98}})
		var guards []guarded
		for i, gens := range lists {
			guards = append(guards, guard(gens))
			whole[i].Gens = guards[i].list
		}
		meet, _ := impl.MeetOfAll(whole[:len(lists)])
		want := slices.Clone(meet.Gens)
		if !equalLists(gensOf(whole), append(slices.Clone(lists), []int{97}, []int{98})) {
			t.Errorf("MeetOfAll(%d) has changed its list to %d", lists, gensOf(whole))
		}
		for i, g := range guards {
			g.check(t, "MeetOfAll", lists[i])
			scribble(g.whole)
		}
		if !slices.Equal(meet.Gens, want) {
			t.Errorf("MeetOfAll(%d) gives %d after its list was changed; want %d", lists, meet.Gens, want)
		}
	}
}
