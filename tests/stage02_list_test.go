package tests

import (
	"math"
	"math/big"
	"regexp"
	"slices"
	"strings"
	"testing"

	"loop.example/g00595/impl"
)

// Promise 2: lists are parsed from their texts.

// numbersUpTo returns 0, 1 and so on, count of them.
func numbersUpTo(count int) []int {
	list := make([]int, count)
	for i := range list {
		list[i] = i
	}
	return list
}

// shortLists returns all lists of at most most of the numbers.
func shortLists(numbers []int, most int) [][]int {
	all := [][]int{{}}
	last := all
	for range most {
		var next [][]int
		for _, list := range last {
			for _, n := range numbers {
				next = append(next, append(slices.Clone(list), n))
			}
		}
		all = append(all, next...)
		last = next
	}
	return all
}

// inOrder returns the keys of a set in ascending order.
func inOrder(set map[int]bool) []int {
	var list []int
	for n := range set {
		list = append(list, n)
	}
	slices.Sort(list)
	return list
}

func within(n int) bool { return n >= -1000000 && n <= 1000000 }

func TestMaxNumber(t *testing.T) {
	if impl.MaxNumber != 1000000 {
		t.Errorf("MaxNumber = %d", impl.MaxNumber)
	}
}

func TestGcdOf(t *testing.T) {
	cases := []struct{ a, b, want int }{
		{0, 0, 0},
		{0, 5, 5},
		{5, 0, 5},
		{0, -5, 5},
		{-5, 0, 5},
		{1, 1, 1},
		{1, 7, 1},
		{7, 7, 7},
		{12, 18, 6},
		{18, 12, 6},
		{12, -18, 6},
		{-12, 18, 6},
		{-12, -18, 6},
		{17, 60, 1},
		{832040, 514229, 1},
		{999999, 1000000, 1},
		{0, 1000000, 1000000},
		{0, -1000000, 1000000},
		{1000000, 0, 1000000},
		{-1000000, 0, 1000000},
		{1000000, 1000000, 1000000},
		{1000000, -1000000, 1000000},
		{-1000000, 750000, 250000},
		{1000001, 0, 0},
		{0, 1000001, 0},
		{-1000001, 0, 0},
		{0, -1000001, 0},
		{1000001, 1, 0},
		{1, 1000001, 0},
		{-1000001, 1, 0},
		{1, -1000001, 0},
		{1000001, 1000001, 0},
		{2000000, 1000000, 0},
		{math.MinInt, 0, 0},
		{0, math.MinInt, 0},
		{math.MinInt, -1, 0},
		{-1, math.MinInt, 0},
		{math.MinInt, math.MinInt, 0},
		{math.MaxInt, 0, 0},
		{7, math.MaxInt, 0},
		{math.MinInt, math.MaxInt, 0},
		// The remainders modulo 2^32 are small.
		{1 << 32, 6, 0},
		{1<<32 + 6, 9, 0},
	}
	for _, c := range cases {
		if got := impl.GcdOf(c.a, c.b); got != c.want {
			t.Errorf("GcdOf(%d, %d) = %d; want %d", c.a, c.b, got, c.want)
		}
	}
}

func TestGcdOfAgainstBig(t *testing.T) {
	check := func(a int, b int) {
		t.Helper()
		x := new(big.Int).Abs(big.NewInt(int64(a)))
		y := new(big.Int).Abs(big.NewInt(int64(b)))
		want := int(new(big.Int).GCD(nil, nil, x, y).Int64())
		if got := impl.GcdOf(a, b); got != want {
			t.Errorf("GcdOf(%d, %d) = %d; want %d", a, b, got, want)
		}
	}
	for a := -40; a <= 40; a++ {
		for b := -40; b <= 40; b++ {
			check(a, b)
			check(a*25000, b*25000)
			check(a*24310, b*9699)
		}
	}
}

func TestGcdOfList(t *testing.T) {
	cases := []struct {
		list []int
		want int
	}{
		{nil, 0},
		{[]int{}, 0},
		{[]int{0}, 0},
		{[]int{0, 0, 0}, 0},
		{[]int{5}, 5},
		{[]int{-5}, 5},
		{[]int{0, -5}, 5},
		{[]int{-5, 0}, 5},
		{[]int{6, 10, 15}, 1},
		{[]int{6, 10}, 2},
		{[]int{-6, 9, -15}, 3},
		{[]int{4, 4, 4}, 4},
		{[]int{12, 0, 18}, 6},
		{[]int{1000000}, 1000000},
		{[]int{-1000000}, 1000000},
		{[]int{1000000, -750000}, 250000},
		{[]int{1000001}, 0},
		{[]int{-1000001}, 0},
		{[]int{math.MinInt}, 0},
		{[]int{math.MaxInt}, 0},
		{[]int{6, 1000001}, 0},
		{[]int{6, 10, math.MinInt}, 0},
		// The document chains GcdOf, which is 0 for such a number: the next one starts anew.
		{[]int{1000001, 6}, 6},
		{[]int{10, -1000001, 6}, 6},
		{[]int{10, math.MinInt, 6, 9}, 3},
		{[]int{4, 1000001, 0}, 0},
	}
	for _, c := range cases {
		if got := impl.GcdOfList(c.list); got != c.want {
			t.Errorf("GcdOfList(%d) = %d; want %d", c.list, got, c.want)
		}
	}
	for _, list := range shortLists([]int{-12, 0, 18, 30, 1000001}, 4) {
		want := 0
		for _, n := range list {
			want = impl.GcdOf(want, n)
		}
		if got := impl.GcdOfList(list); got != want {
			t.Errorf("GcdOfList(%d) = %d; want %d", list, got, want)
		}
	}
}

func TestIsAscending(t *testing.T) {
	cases := []struct {
		list []int
		want bool
	}{
		{nil, true},
		{[]int{}, true},
		{[]int{0}, true},
		{[]int{math.MinInt}, true},
		{[]int{1, 2}, true},
		{[]int{2, 1}, false},
		{[]int{2, 2}, false},
		{[]int{-2, -1, 0, 1}, true},
		{[]int{-1, -2}, false},
		{[]int{1, 2, 2}, false},
		{[]int{1, 1, 2}, false},
		{[]int{1, 3, 2}, false},
		{[]int{2, 1, 3}, false},
		{[]int{1, 3, 2, 4}, false},
		{[]int{1000000, 1000001}, true},
		{[]int{math.MinInt, math.MaxInt}, true},
		{[]int{math.MaxInt, math.MinInt}, false},
		{[]int{math.MinInt, math.MinInt + 1, 0, math.MaxInt - 1, math.MaxInt}, true},
		{[]int{math.MinInt, math.MinInt}, false},
		{numbersUpTo(301), true},
		{append(numbersUpTo(301), 300), false},
	}
	for _, c := range cases {
		if got := impl.IsAscending(c.list); got != c.want {
			t.Errorf("IsAscending(%d) = %v; want %v", c.list, got, c.want)
		}
	}
}

// TestSortListOfShortLists also looks at the agreement of IsAscending and
// HasNumber with the sorted list.
func TestSortListOfShortLists(t *testing.T) {
	numbers := []int{math.MinInt, -2, 0, 3, math.MaxInt}
	for _, list := range shortLists(numbers, 5) {
		set := map[int]bool{}
		for _, n := range list {
			set[n] = true
		}
		want := inOrder(set)
		got := impl.SortList(list)
		if !slices.Equal(got, want) {
			t.Fatalf("SortList(%d) = %d; want %d", list, got, want)
		}
		if impl.IsAscending(list) != slices.Equal(list, want) {
			t.Fatalf("IsAscending(%d) = %v", list, impl.IsAscending(list))
		}
		for _, n := range append([]int{1}, numbers...) {
			if impl.HasNumber(list, n) != set[n] {
				t.Fatalf("HasNumber(%d, %d) = %v", list, n, impl.HasNumber(list, n))
			}
		}
	}
}

func TestSortList(t *testing.T) {
	cases := []struct{ list, want []int }{
		{nil, nil},
		{[]int{}, nil},
		{[]int{7}, []int{7}},
		{[]int{3, 1, 3, -2}, []int{-2, 1, 3}},
		{[]int{0, 0, 0}, []int{0}},
		{[]int{10, 9, 100, 2}, []int{2, 9, 10, 100}},
		{[]int{1000001, -1000001, 1000000, -1000000}, []int{-1000001, -1000000, 1000000, 1000001}},
		{[]int{math.MaxInt, 1, math.MinInt, -1}, []int{math.MinInt, -1, 1, math.MaxInt}},
	}
	for _, c := range cases {
		if got := impl.SortList(c.list); !slices.Equal(got, c.want) {
			t.Errorf("SortList(%d) = %d; want %d", c.list, got, c.want)
		}
	}
	for _, count := range []int{300, 301, 5000} {
		var list []int
		for i := range count {
			list = append(list, i*7919%count, i)
		}
		if got := impl.SortList(list); !slices.Equal(got, numbersUpTo(count)) {
			t.Errorf("SortList of the numbers below %d, each at least once, is %d", count, got)
		}
	}
}

func TestHasNumber(t *testing.T) {
	cases := []struct {
		list []int
		n    int
		want bool
	}{
		{nil, 0, false},
		{[]int{}, 0, false},
		{[]int{0}, 0, true},
		{[]int{3}, 3, true},
		{[]int{3}, -3, false},
		{[]int{5, 1, 3}, 5, true},
		{[]int{5, 1, 3}, 1, true},
		{[]int{5, 1, 3}, 3, true},
		{[]int{5, 1, 3}, 4, false},
		{[]int{2, 2}, 2, true},
		{[]int{1000001}, 1000001, true},
		{[]int{math.MinInt, math.MaxInt}, math.MinInt, true},
		{[]int{math.MinInt, math.MaxInt}, math.MaxInt, true},
		{[]int{math.MinInt}, 0, false},
		{[]int{1 << 32}, 0, false},
		{numbersUpTo(301), 300, true},
		{numbersUpTo(301), 301, false},
	}
	for _, c := range cases {
		if got := impl.HasNumber(c.list, c.n); got != c.want {
			t.Errorf("HasNumber(%d, %d) = %v; want %v", c.list, c.n, got, c.want)
		}
	}
	// Behind the length there is nothing, whatever the capacity holds.
	if whole := []int{1, 2, 3}; impl.HasNumber(whole[:2], 3) {
		t.Error("HasNumber finds a number behind the length")
	}
}

func TestSumsOf(t *testing.T) {
	cases := []struct{ a, b, want []int }{
		{nil, nil, nil},
		{[]int{0}, nil, nil},
		{nil, []int{0}, nil},
		{[]int{}, []int{1, 2}, nil},
		{[]int{0}, []int{0}, []int{0}},
		{[]int{0, 1}, []int{5, 6}, []int{5, 6, 7}},
		{[]int{6, 5}, []int{1, 0}, []int{5, 6, 7}},
		{[]int{3, 3}, []int{4, 4, 4}, []int{7}},
		{[]int{-3, 3}, []int{-3, 3}, []int{-6, 0, 6}},
		{[]int{10, 1}, []int{100, 20}, []int{21, 30, 101, 110}},
		{[]int{1000000}, []int{1000000}, []int{2000000}},
		{[]int{-1000000}, []int{-1000000}, []int{-2000000}},
		{[]int{-1000000, 1000000}, []int{-1000000, 1000000}, []int{-2000000, 0, 2000000}},
		{[]int{1000001}, []int{1}, nil},
		{[]int{1}, []int{1000001}, nil},
		{[]int{-1000001}, []int{1}, nil},
		{[]int{1}, []int{-1000001}, nil},
		{[]int{1, 2, 1000001}, []int{1}, nil},
		{[]int{1}, []int{1, -1000001, 2}, nil},
		{[]int{math.MinInt}, []int{0}, nil},
		{[]int{0}, []int{math.MinInt}, nil},
		{[]int{math.MaxInt}, []int{math.MinInt}, nil},
		{[]int{0}, []int{5, math.MaxInt}, nil},
		{[]int{1 << 32}, []int{0}, nil},
		{[]int{math.MinInt}, nil, nil},
	}
	for _, c := range cases {
		if got := impl.SumsOf(c.a, c.b); !slices.Equal(got, c.want) {
			t.Errorf("SumsOf(%d, %d) = %d; want %d", c.a, c.b, got, c.want)
		}
	}
}

func TestSumsOfLongLists(t *testing.T) {
	many := numbersUpTo(300)
	tooMany := numbersUpTo(301)
	zeros := make([]int, 301)
	if got := impl.SumsOf(many, []int{7}); len(got) != 300 || got[0] != 7 || got[299] != 306 {
		t.Errorf("SumsOf(300 numbers, [7]) = %d", got)
	}
	if got := impl.SumsOf([]int{7}, many); len(got) != 300 || got[0] != 7 || got[299] != 306 {
		t.Errorf("SumsOf([7], 300 numbers) = %d", got)
	}
	if got := impl.SumsOf(many, many); !slices.Equal(got, numbersUpTo(599)) {
		t.Errorf("SumsOf(300 numbers, 300 numbers) = %d", got)
	}
	if got := impl.SumsOf(zeros[:300], zeros[:300]); !slices.Equal(got, []int{0}) {
		t.Errorf("SumsOf(300 zeros, 300 zeros) = %d", got)
	}
	// All 90000 sums differ here.
	wide := make([]int, 300)
	for i := range wide {
		wide[i] = -1000000 + 300*i
	}
	got := impl.SumsOf(wide, many)
	for i, n := range got {
		if n != -1000000+i {
			t.Fatalf("SumsOf with 90000 sums: sum %d is %d", i, n)
		}
	}
	if len(got) != 90000 {
		t.Errorf("SumsOf with 90000 sums has %d", len(got))
	}
	// Repeated numbers count too.
	for _, long := range [][]int{tooMany, zeros} {
		for _, other := range [][]int{{7}, many, long, nil} {
			if got := impl.SumsOf(long, other); len(got) != 0 {
				t.Errorf("SumsOf(301 numbers, %d numbers) has %d sums", len(other), len(got))
			}
			if got := impl.SumsOf(other, long); len(got) != 0 {
				t.Errorf("SumsOf(%d numbers, 301 numbers) has %d sums", len(other), len(got))
			}
		}
	}
}

func TestSumsOfShortLists(t *testing.T) {
	numbers := []int{-1000000, -3, 0, 2, 1000000, 1000001}
	lists := shortLists(numbers, 3)
	for _, a := range lists {
		for _, b := range lists {
			set := map[int]bool{}
			for _, x := range a {
				for _, y := range b {
					set[x+y] = true
				}
			}
			want := inOrder(set)
			if slices.ContainsFunc(append(slices.Clone(a), b...), func(n int) bool { return !within(n) }) {
				want = nil
			}
			if got := impl.SumsOf(a, b); !slices.Equal(got, want) {
				t.Fatalf("SumsOf(%d, %d) = %d; want %d", a, b, got, want)
			}
		}
	}
}

func TestSharedOf(t *testing.T) {
	cases := []struct{ a, b, want []int }{
		{nil, nil, nil},
		{[]int{1}, nil, nil},
		{nil, []int{1}, nil},
		{[]int{}, []int{}, nil},
		{[]int{0}, []int{0}, []int{0}},
		{[]int{1}, []int{2}, nil},
		{[]int{3, 1, 2}, []int{2, 3}, []int{2, 3}},
		{[]int{2, 3}, []int{3, 1, 2}, []int{2, 3}},
		{[]int{3, 3, 2}, []int{3, 2, 2}, []int{2, 3}},
		{[]int{3, 3}, []int{2, 2}, nil},
		{[]int{-1, 1}, []int{1, -1}, []int{-1, 1}},
		{[]int{1000001, -1000001}, []int{-1000001, 1000001}, []int{-1000001, 1000001}},
		{[]int{math.MaxInt, math.MinInt, 0}, []int{math.MinInt, math.MaxInt, 1}, []int{math.MinInt, math.MaxInt}},
		{[]int{1 << 32}, []int{0}, nil},
	}
	for _, c := range cases {
		if got := impl.SharedOf(c.a, c.b); !slices.Equal(got, c.want) {
			t.Errorf("SharedOf(%d, %d) = %d; want %d", c.a, c.b, got, c.want)
		}
	}
	// No limit holds for the lengths.
	for _, count := range []int{300, 301, 5000} {
		long := numbersUpTo(count)
		down := slices.Clone(long)
		slices.Reverse(down)
		if got := impl.SharedOf(down, append(down, long...)); !slices.Equal(got, long) {
			t.Errorf("SharedOf of the numbers below %d and themselves = %d", count, got)
		}
		if got := impl.SharedOf(long, []int{count, count - 1}); !slices.Equal(got, []int{count - 1}) {
			t.Errorf("SharedOf of the numbers below %d and the last one = %d", count, got)
		}
	}
}

func TestSharedOfShortLists(t *testing.T) {
	lists := shortLists([]int{math.MinInt, -3, 0, 2, 1000001, math.MaxInt}, 3)
	for _, a := range lists {
		for _, b := range lists {
			set := map[int]bool{}
			for _, n := range a {
				if slices.Contains(b, n) {
					set[n] = true
				}
			}
			if got, want := impl.SharedOf(a, b), inOrder(set); !slices.Equal(got, want) {
				t.Fatalf("SharedOf(%d, %d) = %d; want %d", a, b, got, want)
			}
		}
	}
}

func TestListText(t *testing.T) {
	cases := []struct {
		list []int
		want string
	}{
		{nil, "none"},
		{[]int{}, "none"},
		{[]int{0}, "0"},
		{[]int{-5}, "-5"},
		{[]int{1, 2}, "1,2"},
		{[]int{3, 1, 3, -2}, "3,1,3,-2"},
		{[]int{0, 0}, "0,0"},
		{[]int{1000001, -1000001}, "1000001,-1000001"},
		{[]int{999999999999, 1000000000000}, "999999999999,1000000000000"},
		{[]int{math.MinInt, math.MaxInt}, "-9223372036854775808,9223372036854775807"},
		{make([]int, 301), strings.Repeat("0,", 300) + "0"},
	}
	for _, c := range cases {
		if got := impl.ListText(c.list); got != c.want {
			t.Errorf("ListText(%d) = %q; want %q", c.list, got, c.want)
		}
	}
}

func TestParseList(t *testing.T) {
	cases := []struct {
		text string
		want []int
	}{
		{"none", nil},
		{"0", []int{0}},
		{"-5", []int{-5}},
		{"4,-1,0", []int{4, -1, 0}},
		{"3,1,3,-2", []int{3, 1, 3, -2}},
		{"7,7,7", []int{7, 7, 7}},
		{"1000001", []int{1000001}},
		{"999999999999", []int{999999999999}},
		{"-999999999999", []int{-999999999999}},
		{"-999999999999,999999999999,0", []int{-999999999999, 999999999999, 0}},
		{"4294967301,-4294967301", []int{4294967301, -4294967301}},
		{strings.Repeat("0,", 300) + "0", make([]int, 301)},
		{strings.Repeat("0,", 4999) + "0", make([]int, 5000)},
	}
	for _, c := range cases {
		if got, ok := impl.ParseList(c.text); !slices.Equal(got, c.want) || !ok {
			t.Errorf("ParseList(%q) = %d, %v; want %d, true", c.text, got, ok, c.want)
		}
	}
}

func TestParseListRejects(t *testing.T) {
	texts := []string{
		"", " ", ",", ",,", "1,", ",1", "1,,2", ",1,2", "1,2,", "1,2,,", "0,",
		"01", "1,02", "-01,1", "00", "-0", "1,-0", "+1", "1,+2", "007,1",
		" 1", "1 ", "1 2", "1, 2", "1 ,2", "1,2 ", "1\t,2", "1,2\n", "\n1,2", "1\x00,2",
		"1;2", "1.2", "1-2", "--1", "1,-", "-,1", "1,--2", "a", "1,a", "a,1",
		"nones", "none,", ",none", "none,none", "none,1", "1,none", "None", "NONE", " none", "none ", "none\n", "non", "nil", "one", "n",
		"[1,2]", "<3,5>", "1,2>", "1_0", "1e3", "0x1", "\uff11", "1\uff0c2", "\xff", "1,\xff",
		"1000000000000", "-1000000000000", "1,1000000000000", "-1000000000000,1", "1,1000000000000,2",
		"9223372036854775807", "-9223372036854775808", "18446744073709551617", "1,18446744073709551617",
		strings.Repeat("9", 1000), strings.Repeat(",", 1000), strings.Repeat("1,", 1000),
	}
	for _, s := range texts {
		if list, ok := impl.ParseList(s); len(list) != 0 || ok {
			t.Errorf("ParseList(%q) = %d, %v; want no list and false", s, list, ok)
		}
	}
}

// TestParseListOfShortTexts holds ParseList against the form of the texts,
// written without a look at the program.
func TestParseListOfShortTexts(t *testing.T) {
	form := regexp.MustCompile(`^(none|(0|-?[1-9][0-9]*)(,(0|-?[1-9][0-9]*))*)\z`)
	for _, s := range append(shortTexts("017-, +", 6), shortTexts("none,1", 5)...) {
		list, ok := impl.ParseList(s)
		if ok != form.MatchString(s) {
			t.Fatalf("ParseList(%q) = %d, %v", s, list, ok)
		}
		if !ok && len(list) != 0 {
			t.Fatalf("ParseList(%q) = %d, false; want no list and false", s, list)
		}
		if ok && impl.ListText(list) != s {
			t.Fatalf("ParseList(%q) = %d, of which ListText is %q", s, list, impl.ListText(list))
		}
	}
}

func TestParseListOfListText(t *testing.T) {
	const most = 999999999999
	numbers := []int{-most - 1, -most, -1000001, -10, -1, 0, 1, 12, 1000000, most, most + 1, math.MinInt, math.MaxInt}
	for _, list := range shortLists(numbers, 3) {
		want := list
		wantOK := !slices.ContainsFunc(list, func(n int) bool { return n < -most || n > most })
		if !wantOK {
			want = nil
		}
		text := impl.ListText(list)
		if got, ok := impl.ParseList(text); !slices.Equal(got, want) || ok != wantOK {
			t.Fatalf("ParseList(%q) = %d, %v; want %d, %v", text, got, ok, want, wantOK)
		}
	}
}

// guarded is a list with unused capacity in which numbers stand that no call
// may change.
type guarded struct{ whole, list []int }

func guard(list []int) guarded {
	whole := append(slices.Clone(list), 97, -98, 99, -100, 101)
	return guarded{whole, whole[:len(list)]}
}

func (g guarded) check(t *testing.T, name string, list []int) {
	t.Helper()
	if want := guard(list).whole; !slices.Equal(g.whole, want) {
		t.Errorf("%s has changed its argument %d to %d", name, want, g.whole)
	}
}

// scribble overwrites a result with its unused capacity.
func scribble(list []int) {
	list = list[:cap(list)]
	for i := range list {
		list[i] = -55
	}
}

// twoListCalls are the functions of two lists; those of one list get the first.
func twoListCalls() map[string]func(a []int, b []int) []int {
	return map[string]func(a []int, b []int) []int{
		"SortList":    func(a []int, b []int) []int { return impl.SortList(a) },
		"SumsOf":      impl.SumsOf,
		"SharedOf":    impl.SharedOf,
		"GcdOfList":   func(a []int, b []int) []int { return []int{impl.GcdOfList(a)} },
		"IsAscending": func(a []int, b []int) []int { impl.IsAscending(a); return nil },
		"HasNumber":   func(a []int, b []int) []int { impl.HasNumber(a, 3); return nil },
		"ListText":    func(a []int, b []int) []int { impl.ListText(a); return nil },
	}
}

func argumentLists() [][]int {
	return [][]int{
		{}, {0}, {7}, {1, 2, 3}, {3, 2, 1}, {2, 2, 1, 1}, {5, 5, 5}, {0, 1000000, -1000000},
		{3, 1000001, 1}, {3, math.MinInt, 1}, numbersUpTo(300), numbersUpTo(301),
	}
}

func TestListsAreNotChanged(t *testing.T) {
	for name, call := range twoListCalls() {
		for _, a := range argumentLists() {
			for _, b := range argumentLists() {
				x, y := guard(a), guard(b)
				call(x.list, y.list)
				x.check(t, name, a)
				y.check(t, name, b)
			}
		}
	}
}

func TestListResultsShareNoMemory(t *testing.T) {
	for name, call := range twoListCalls() {
		for _, a := range argumentLists() {
			for _, b := range argumentLists() {
				x, y := guard(a), guard(b)
				first := call(x.list, y.list)
				want := slices.Clone(first)
				scribble(first)
				x.check(t, name, a)
				y.check(t, name, b)
				second := call(x.list, y.list)
				third := call(x.list, y.list)
				scribble(third)
				scribble(x.whole)
				scribble(y.whole)
				if !slices.Equal(second, want) {
					t.Errorf("%s: the result %d becomes %d when others change", name, want, second)
				}
			}
		}
	}
}

// TestListTwice passes one list as both arguments.
func TestListTwice(t *testing.T) {
	g := guard([]int{3, 1, 3})
	if got := impl.SumsOf(g.list, g.list); !slices.Equal(got, []int{2, 4, 6}) {
		t.Errorf("SumsOf of a list and itself = %d", got)
	}
	if got := impl.SharedOf(g.list, g.list); !slices.Equal(got, []int{1, 3}) {
		t.Errorf("SharedOf of a list and itself = %d", got)
	}
	g.check(t, "SumsOf or SharedOf", []int{3, 1, 3})
}

func TestParseListGivesNewMemory(t *testing.T) {
	for _, text := range []string{"none", "1", "1,2,3"} {
		first, _ := impl.ParseList(text)
		want := slices.Clone(first)
		second, _ := impl.ParseList(text)
		scribble(first)
		if third, ok := impl.ParseList(text); !ok || !slices.Equal(second, want) || !slices.Equal(third, want) {
			t.Errorf("ParseList(%q) = %d and %d after an earlier result was changed", text, second, third)
		}
	}
}
