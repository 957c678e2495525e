package tests

import (
	"math"
	"slices"
	"strconv"
	"strings"
	"sync"
	"testing"

	"loop.example/g00595/impl"
)

// Promise 29: the examples are semigroups.

// exampleGens are the Gens of the examples from 1 on.
func exampleGens() [][]int {
	return [][]int{nil, {3, 5}, {4, 6, 9}, {6, 9, 20}, {3, 4, 5}, {1}, {5, 7, 9, 11}}
}

// exampleNumbers are numbers of examples and others.
func exampleNumbers() []int {
	return append(numbersFrom(-3, 12), math.MinInt, math.MinInt+1, -1<<32, -1<<32+1, -6, 60, 1<<32, 1<<32+1, 1<<32+6, math.MaxInt-1, math.MaxInt)
}

// describeByText follows the text of the document.
func describeByText(gens []int) string {
	if !isSemigroupByText(gens) {
		return ""
	}
	gapped, symmetry := gapFactsByText(gens), symmetryFactsByText(gens)
	kind := "reducible"
	if symmetry.symmetric {
		kind = "symmetric"
	} else if symmetry.pseudoSym {
		kind = "pseudo-symmetric"
	}
	text := "frobenius " + strconv.Itoa(gapped.frobenius)
	text += " genus " + strconv.Itoa(gapped.genus)
	text += " type " + strconv.Itoa(symmetry.kinds)
	text += " " + kind
	text += " gaps " + listTextByText(gapped.gaps)
	text += " least " + listTextByText(aperyByText(gens, gens[0]))
	text += " wilf " + strconv.Itoa(wilfFactsByText(gens).wilf)
	return text
}

func compareDescription(t *testing.T, gens []int) string {
	t.Helper()
	got, want := impl.DescribeSemigroup(impl.Semigroup{Gens: gens}), describeByText(gens)
	if got != want {
		t.Fatalf("DescribeSemigroup(%d) = %q; want %q", gens, got, want)
	}
	return got
}

func TestExampleText(t *testing.T) {
	texts := map[int]string{1: "<3,5>", 2: "<4,6,9>", 3: "<6,9,20>", 4: "<3,4,5>", 5: "<1>", 6: "<5,7,9,11>"}
	for _, k := range exampleNumbers() {
		if got := impl.ExampleText(k); got != texts[k] {
			t.Errorf("ExampleText(%d) = %q; want %q", k, got, texts[k])
		}
	}
}

func TestExamplesAreSemigroups(t *testing.T) {
	for k := 1; k <= 6; k++ {
		s, ok := impl.ParseSemigroup(impl.ExampleText(k))
		if !ok || !impl.IsSemigroup(s) || !slices.Equal(s.Gens, exampleGens()[k]) || impl.SemigroupText(s) != impl.ExampleText(k) {
			t.Errorf("example %d is %d, %v", k, s.Gens, ok)
		}
		if got := impl.DescribeExample(k); got != impl.DescribeSemigroup(s) || got == "" {
			t.Errorf("DescribeExample(%d) = %q; want %q", k, got, impl.DescribeSemigroup(s))
		}
	}
}

func TestDescribeExample(t *testing.T) {
	want := map[int]string{
		1: "frobenius 7 genus 4 type 1 symmetric gaps 1,2,4,7 least 0,10,5 wilf 0",
		2: "frobenius 11 genus 6 type 1 symmetric gaps 1,2,3,5,7,11 least 0,9,6,15 wilf 6",
		3: "frobenius 43 genus 22 type 1 symmetric gaps 1,2,3,4,5,7,8,10,11,13,14,16,17,19,22,23,25,28,31,34,37,43 least 0,49,20,9,40,29 wilf 22",
		4: "frobenius 2 genus 2 type 2 pseudo-symmetric gaps 1,2 least 0,4,5 wilf 0",
		5: "frobenius -1 genus 0 type 1 symmetric gaps none least 0 wilf 0",
		6: "frobenius 13 genus 7 type 1 symmetric gaps 1,2,3,4,6,8,13 least 0,11,7,18,9 wilf 14",
	}
	for _, k := range exampleNumbers() {
		if got := impl.DescribeExample(k); got != want[k] {
			t.Errorf("DescribeExample(%d) = %q; want %q", k, got, want[k])
		}
	}
	for k, gens := range exampleGens() {
		if got := describeByText(gens); got != want[k] {
			t.Errorf("the test itself is wrong: %d: %q", k, got)
		}
	}
}

func TestDescribeSemigroup(t *testing.T) {
	cases := []struct {
		gens []int
		want string
	}{
		// The semigroup without gaps: the word none.
		{[]int{1}, "frobenius -1 genus 0 type 1 symmetric gaps none least 0 wilf 0"},
		// Symmetric ones.
		{[]int{2, 3}, "frobenius 1 genus 1 type 1 symmetric gaps 1 least 0,3 wilf 0"},
		{[]int{3, 4}, "frobenius 5 genus 3 type 1 symmetric gaps 1,2,5 least 0,4,8 wilf 0"},
		{[]int{4, 5, 6}, "frobenius 7 genus 4 type 1 symmetric gaps 1,2,3,7 least 0,5,6,11 wilf 4"},
		// Pseudo-symmetric ones.
		{[]int{3, 5, 7}, "frobenius 4 genus 3 type 2 pseudo-symmetric gaps 1,2,4 least 0,7,5 wilf 1"},
		{[]int{4, 5, 7}, "frobenius 6 genus 4 type 2 pseudo-symmetric gaps 1,2,3,6 least 0,5,10,7 wilf 2"},
		// Reducible ones.
		{[]int{4, 5, 6, 7}, "frobenius 3 genus 3 type 3 reducible gaps 1,2,3 least 0,5,6,7 wilf 0"},
		{[]int{3, 7, 8}, "frobenius 5 genus 4 type 2 reducible gaps 1,2,4,5 least 0,7,8 wilf 0"},
		{[]int{5, 6, 7, 8, 9}, "frobenius 4 genus 4 type 4 reducible gaps 1,2,3,4 least 0,6,7,8,9 wilf 0"},
		{[]int{4, 9, 10, 11}, "frobenius 7 genus 6 type 3 reducible gaps 1,2,3,5,6,7 least 0,9,10,11 wilf 0"},
		// No semigroup.
		{nil, ""},
		{[]int{}, ""},
		{[]int{0}, ""},
		{[]int{2}, ""},
		{[]int{5, 3}, ""},
		{[]int{3, 5, 8}, ""},
		{[]int{2, 61}, ""},
		{[]int{4, 6}, ""},
		{numbersFrom(13, 25), ""},
		{[]int{5, 52}, ""},
	}
	for _, c := range cases {
		if byText := describeByText(c.gens); byText != c.want {
			t.Errorf("the test itself is wrong: %d: %q", c.gens, byText)
		}
		if got := impl.DescribeSemigroup(impl.Semigroup{Gens: c.gens}); got != c.want {
			t.Errorf("DescribeSemigroup(%d) = %q; want %q", c.gens, got, c.want)
		}
	}
}

func TestDescriptionsOfSomeSemigroups(t *testing.T) {
	count := map[string]int{}
	for _, gens := range slices.Concat(factoredSemigroups(), smallSemigroups(9), wideSemigroups(), invalidGens()) {
		text := compareDescription(t, gens)
		for _, word := range []string{" symmetric ", " pseudo-symmetric ", " reducible ", " gaps none "} {
			if strings.Contains(text, word) {
				count[word]++
			}
		}
		if text == "" {
			count["no semigroup"]++
		}
	}
	for word, n := range map[string]int{" symmetric ": 50, " pseudo-symmetric ": 20, " reducible ": 50, " gaps none ": 1, "no semigroup": 20} {
		if count[word] < n {
			t.Errorf("the test itself is wrong: %v", count)
		}
	}
}

func TestDescriptionsOfNoSemigroup(t *testing.T) {
	for _, gens := range append(invalidGens(), []int{48, 60}, []int{1, 1}) {
		if got := impl.DescribeSemigroup(impl.Semigroup{Gens: gens}); got != "" {
			t.Errorf("DescribeSemigroup(%d), of no semigroup, = %q", gens, got)
		}
	}
	if got := impl.DescribeSemigroup(impl.Semigroup{}); got != "" {
		t.Errorf("DescribeSemigroup of the zero Semigroup = %q", got)
	}
}

// TestExamplesAtTheSameTime calls from several goroutines, of which one parses
// the examples, unless another test was faster.
func TestExamplesAtTheSameTime(t *testing.T) {
	var callers sync.WaitGroup
	for range 8 {
		callers.Go(func() {
			for k, gens := range exampleGens() {
				if got, want := impl.DescribeExample(k), describeByText(gens); got != want {
					t.Errorf("DescribeExample(%d) = %q; want %q", k, got, want)
				}
				impl.NewSession()
			}
		})
	}
	callers.Wait()
}

func TestDescribeLeavesGens(t *testing.T) {
	calls := map[string]func(s impl.Semigroup) string{"DescribeSemigroup": impl.DescribeSemigroup}
	checkCallsLeaveGens(t, calls, slices.Concat(factoredSemigroups(), smallSemigroups(6), invalidGens()))
}
