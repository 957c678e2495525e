package tests

import (
	"regexp"
	"slices"
	"strconv"
	"strings"
	"testing"

	"loop.example/g00595/impl"
)

// Promise 5: a semigroup is parsed from its text.

// listTextByText writes a list as the document says, without a look at the
// program.
func listTextByText(list []int) string {
	if len(list) == 0 {
		return "none"
	}
	var parts []string
	for _, n := range list {
		parts = append(parts, strconv.Itoa(n))
	}
	return strings.Join(parts, ",")
}

// bracketed is the text that a semigroup with these Gens has.
func bracketed(gens []int) string { return "<" + listTextByText(gens) + ">" }

// gensForm is the form of the texts of lists of numbers from 1 to 99 between
// brackets; no other text can be that of a semigroup.
var gensForm = regexp.MustCompile(`^<[1-9][0-9]?(,[1-9][0-9]?)*>\z`)

// parseByText returns the Gens of the semigroup that has this text.
func parseByText(text string) ([]int, bool) {
	if !gensForm.MatchString(text) {
		return nil, false
	}
	var gens []int
	for _, part := range strings.Split(strings.Trim(text, "<>"), ",") {
		n, _ := strconv.Atoi(part)
		gens = append(gens, n)
	}
	if !isSemigroupByText(gens) {
		return nil, false
	}
	return gens, true
}

// checkParse compares one call with the document's text.
func checkParse(t *testing.T, text string) {
	t.Helper()
	want, wantOK := parseByText(text)
	if s, ok := impl.ParseSemigroup(text); !slices.Equal(s.Gens, want) || ok != wantOK {
		t.Errorf("ParseSemigroup(%q) = %d, %v; want %d, %v", text, s.Gens, ok, want, wantOK)
	}
}

// checkRejected is for texts of which the test itself knows that they are none.
func checkRejected(t *testing.T, text string) {
	t.Helper()
	if _, ok := parseByText(text); ok {
		t.Fatalf("the test itself is wrong: %q", text)
	}
	if s, ok := impl.ParseSemigroup(text); len(s.Gens) > 0 || ok {
		t.Errorf("ParseSemigroup(%q) = %d, %v; want none, false", text, s.Gens, ok)
	}
}

func TestSemigroupText(t *testing.T) {
	cases := []struct {
		gens []int
		want string
	}{
		{[]int{1}, "<1>"},
		{[]int{2, 3}, "<2,3>"},
		{[]int{3, 5}, "<3,5>"},
		{[]int{3, 4, 5}, "<3,4,5>"},
		{[]int{6, 9, 20}, "<6,9,20>"},
		{[]int{7, 34}, "<7,34>"},
		{[]int{5, 51}, "<5,51>"},
		{[]int{7, 17, 60}, "<7,17,60>"},
		{numbersFrom(12, 23), "<12,13,14,15,16,17,18,19,20,21,22,23>"},
		// Those that are no semigroups have no text.
		{nil, ""},
		{[]int{}, ""},
		{[]int{0}, ""},
		{[]int{2}, ""},
		{[]int{61}, ""},
		{[]int{-3, 5, 7}, ""},
		{[]int{5, 3}, ""},
		{[]int{3, 3, 5}, ""},
		{[]int{3, 5, 8}, ""},
		{[]int{2, 4}, ""},
		{[]int{5, 52}, ""},
		{[]int{59, 60}, ""},
		{numbersFrom(13, 25), ""},
	}
	for _, c := range cases {
		if got := impl.SemigroupText(impl.Semigroup{Gens: c.gens}); got != c.want {
			t.Errorf("SemigroupText(%d) = %q; want %q", c.gens, got, c.want)
		}
	}
	if got := impl.SemigroupText(impl.Semigroup{}); got != "" {
		t.Errorf("SemigroupText of the zero Semigroup = %q", got)
	}
}

// TestParseOfSemigroupText is the promise itself.
func TestParseOfSemigroupText(t *testing.T) {
	for _, gens := range append(validGens(), slices.Concat(limitGens()[198], limitGens()[199], limitGens()[200])...) {
		text := impl.SemigroupText(impl.Semigroup{Gens: gens})
		if want := bracketed(gens); text != want {
			t.Errorf("SemigroupText(%d) = %q; want %q", gens, text, want)
		}
		s, ok := impl.ParseSemigroup(text)
		if !ok || !slices.Equal(s.Gens, gens) || !impl.IsSemigroup(s) {
			t.Errorf("ParseSemigroup(%q) = %d, %v; want %d, true", text, s.Gens, ok, gens)
		}
	}
}

func TestTextsOfNoSemigroup(t *testing.T) {
	for _, gens := range invalidGens() {
		s := impl.Semigroup{Gens: gens}
		if got := impl.SemigroupText(s); got != "" {
			t.Errorf("SemigroupText(%d) = %q of no semigroup", gens, got)
		}
		if got := impl.GapText(s); got != "" {
			t.Errorf("GapText(%d) = %q of no semigroup", gens, got)
		}
		checkRejected(t, bracketed(gens))
	}
}

// TestTextsOfSubsets takes all lists of different numbers up to 10, upwards and
// downwards.
func TestTextsOfSubsets(t *testing.T) {
	for set := range 1 << 10 {
		var list []int
		for g := 1; g <= 10; g++ {
			if set>>(g-1)&1 == 1 {
				list = append(list, g)
			}
		}
		compareTextsWithText(t, list)
		slices.Reverse(list)
		compareTextsWithText(t, list)
	}
}

// compareTextsWithText looks at all functions of chapter 5 for one list.
func compareTextsWithText(t *testing.T, list []int) {
	t.Helper()
	wantText, wantGaps := "", ""
	if isSemigroupByText(list) {
		wantText, wantGaps = bracketed(list), listTextByText(gapFactsByText(list).gaps)
	}
	s := impl.Semigroup{Gens: list}
	if text, gaps := impl.SemigroupText(s), impl.GapText(s); text != wantText || gaps != wantGaps {
		t.Fatalf("SemigroupText, GapText of %d = %q, %q; want %q, %q", list, text, gaps, wantText, wantGaps)
	}
	checkParse(t, bracketed(list))
}

// TestTextsOfSomeNumbers takes lists of any order with repetitions, among them
// 0, negative numbers and those beyond MaxGen.
func TestTextsOfSomeNumbers(t *testing.T) {
	for _, list := range shortLists([]int{-3, 0, 1, 2, 3, 5, 8, 60, 61}, 3) {
		compareTextsWithText(t, list)
	}
}

func TestParseSemigroupOfShortTexts(t *testing.T) {
	for _, text := range shortTexts("<>,0123", 6) {
		checkParse(t, text)
	}
	for _, inner := range shortTexts("2357,-+ 0<>", 4) {
		checkParse(t, "<"+inner+">")
	}
}

func TestParseSemigroupOfOneByte(t *testing.T) {
	checkRejected(t, "")
	for b := range 256 {
		one := string([]byte{byte(b)})
		checkRejected(t, one)
		checkRejected(t, one+one)
		checkParse(t, "<"+one+">")
	}
}

// TestParseSemigroupWithEveryByte puts every byte at every place of a text, and
// ahead of each.
func TestParseSemigroupWithEveryByte(t *testing.T) {
	const text = "<3,10,11>"
	for place := 0; place <= len(text); place++ {
		for b := range 256 {
			one := string([]byte{byte(b)})
			checkParse(t, text[:place]+one+text[place:])
			if place < len(text) {
				checkParse(t, text[:place]+one+text[place+1:])
			}
		}
	}
}

// TestParseSemigroupOfParts leaves out the first, the last and other bytes.
func TestParseSemigroupOfParts(t *testing.T) {
	for _, gens := range validGens() {
		text := bracketed(gens)
		for _, part := range []string{text[1:], text[:len(text)-1], text[1 : len(text)-1], text + text, "<" + text + ">", "<" + text, text + ">"} {
			checkRejected(t, part)
		}
		for place := range len(text) {
			checkParse(t, text[:place])
			checkParse(t, text[place:])
			checkParse(t, text[:place]+text[place+1:])
		}
	}
}

func TestParseSemigroupRejects(t *testing.T) {
	texts := []string{
		// Brackets.
		"", "<", ">", "<>", "><", "<<", ">>", "<<>>", "3,5", "<3,5", "3,5>", ">3,5<", "<3,5<", ">3,5>", "<<3,5>", "<3,5>>",
		"(3,5)", "[3,5]", "{3,5}", "\u27e83,5\u27e9", "<3><5>", "<3>,<5>", "<3,<5>>",
		// Spaces, signs and leading zeros.
		" <3,5>", "<3,5> ", "< 3,5>", "<3 ,5>", "<3, 5>", "<3,5 >", "<3,5>\n", "<3,5\n>", "\n<3,5>", "<3\t,5>", "< >", "<3 5>",
		"<+3,5>", "<3,+5>", "<-3,5>", "<3,-5>", "<--3,5>", "<-1>", "<+1>", "<-0,1>", "<->", "<+>",
		"<03,5>", "<3,05>", "<003,5>", "<01>", "<00>", "<0>", "<0,1>", "<0,3,5>", "<001>",
		// Empty parts.
		"<,>", "<,,>", "<,3,5>", "<3,5,>", "<3,,5>", "<,1>", "<1,>", "<3,5,,>",
		// Bytes that are no digits.
		"<a>", "<3,a>", "<3a,5>", "<3,5a>", "<3;5>", "<3.5>", "<3.0,5>", "<3e0,5>", "<0x3,5>", "<1_0,11>", "<3,5\x00>", "<\x003,5>",
		"<\u0663,5>", "<\uff13,5>", "<3\uff0c5>", "<3,5\xff>", "\xff<3,5>", "<3,5>\x00", "\ufeff<3,5>",
		// Not strictly ascending.
		"<5,3>", "<3,3>", "<3,3,5>", "<3,5,5>", "<1,1>", "<4,9,6>", "<20,9,6>",
		// One number is a sum of the others.
		"<3,5,8>", "<3,5,6>", "<2,3,4>", "<1,2>", "<1,60>", "<4,6,9,19>", "<6,9,20,44>",
		// A common divisor.
		"<2>", "<60>", "<2,4>", "<4,6>", "<6,9>", "<6,10,14>", "<57,60>",
		// Numbers beyond MaxGen, MaxNumber, what ParseInt accepts and 64 bits, where the remainder modulo 2^64 or 2^32 is a generator.
		"<61>", "<2,61>", "<3,62>", "<100>", "<1,61>", "<60,61>",
		"<1000000>", "<1000001>", "<3,1000000>", "<3,1000001>", "<3,999999999999>", "<3,1000000000000>",
		"<4294967299,4294967301>", "<3,4294967301>", "<4294967297>", "<9223372036854775807>", "<9223372036854775808>",
		"<18446744073709551617>", "<18446744073709551619,18446744073709551621>", "<3,18446744073709551621>", "<-18446744073709551615>",
		"<" + strings.Repeat("1", 1000) + ">", "<3," + strings.Repeat("0", 1000) + "5>",
		// A conductor beyond MaxConductor.
		"<19,23,52>", "<5,52>", "<13,18>", "<59,60>",
		// More than 12 numbers.
		bracketed(numbersFrom(13, 25)), bracketed(numbersFrom(14, 26)), bracketed(numbersFrom(20, 39)), bracketed(numbersFrom(1, 60)),
		// The text of a list of no numbers, and others that are no lists.
		"none", "<none>", "<none,1>", "<1,none>", "<None>", "<none", "none>", "<nil>",
	}
	for _, text := range texts {
		checkRejected(t, text)
	}
}

// TestParseSemigroupAtLimits holds the last that are accepted against the first
// that are not.
func TestParseSemigroupAtLimits(t *testing.T) {
	cases := []struct {
		text string
		want bool
	}{
		{"<12,13,14,15,16,17,18,19,20,21,22,23>", true},
		{"<13,14,15,16,17,18,19,20,21,22,23,24>", true},
		{"<13,14,15,16,17,18,19,20,21,22,23,24,25>", false},
		{"<2,59>", true},
		{"<7,17,60>", true},
		{"<2,61>", false},
		{"<7,17,61>", false},
		{"<7,34>", true},
		{"<17,23,54>", true},
		{"<5,51>", true},
		{"<9,26>", true},
		{"<12,20,57>", true},
		{"<19,23,52>", false},
		{"<10,15,49>", false},
		{"<5,52>", false},
		{"<1>", true},
		{"<0>", false},
		{"<2>", false},
	}
	for _, c := range cases {
		if _, ok := parseByText(c.text); ok != c.want {
			t.Fatalf("the test itself is wrong: %q", c.text)
		}
		s, ok := impl.ParseSemigroup(c.text)
		if ok != c.want || !ok && len(s.Gens) > 0 || ok && impl.SemigroupText(s) != c.text {
			t.Errorf("ParseSemigroup(%q) = %d, %v; want %v", c.text, s.Gens, ok, c.want)
		}
	}
}

func TestParseSemigroupOfLongTexts(t *testing.T) {
	const count = 200000
	for _, text := range []string{
		strings.Repeat("<", count), strings.Repeat(">", count), strings.Repeat("<3,5>", count),
		"<" + strings.Repeat(",", count) + ">", "<" + strings.Repeat("3,", count) + "5>", "<3,5" + strings.Repeat(" ", count) + ">",
		"<" + listTextByText(numbersFrom(1, count)) + ">", "<" + strings.Repeat("9", count) + ">", "<3,5" + strings.Repeat(">", count),
	} {
		if s, ok := impl.ParseSemigroup(text); len(s.Gens) > 0 || ok {
			t.Errorf("ParseSemigroup of %q .. = %d, %v; want none, false", text[:9], s.Gens, ok)
		}
	}
}

func TestGapText(t *testing.T) {
	cases := []struct {
		gens []int
		want string
	}{
		{[]int{1}, "none"},
		{[]int{2, 3}, "1"},
		{[]int{3, 4, 5}, "1,2"},
		{[]int{2, 5}, "1,3"},
		{[]int{3, 5}, "1,2,4,7"},
		{[]int{4, 6, 9}, "1,2,3,5,7,11"},
		{[]int{6, 9, 20}, "1,2,3,4,5,7,8,10,11,13,14,16,17,19,22,23,25,28,31,34,37,43"},
		{nil, ""},
		{[]int{0}, ""},
		{[]int{2}, ""},
		{[]int{5, 3}, ""},
		{[]int{3, 5, 8}, ""},
		{[]int{1, 2}, ""},
		{[]int{5, 52}, ""},
	}
	for _, c := range cases {
		if got := impl.GapText(impl.Semigroup{Gens: c.gens}); got != c.want {
			t.Errorf("GapText(%d) = %q; want %q", c.gens, got, c.want)
		}
	}
	if got := impl.GapText(impl.Semigroup{}); got != "" {
		t.Errorf("GapText of the zero Semigroup = %q", got)
	}
}

func TestGapTextOfSomeSemigroups(t *testing.T) {
	for _, gens := range append(validGens(), slices.Concat(limitGens()[198], limitGens()[199], limitGens()[200])...) {
		s := impl.Semigroup{Gens: gens}
		if got, want := impl.GapText(s), listTextByText(gapFactsByText(gens).gaps); got != want {
			t.Errorf("GapText(%d) = %q; want %q", gens, got, want)
		}
		if list, ok := impl.ParseList(impl.GapText(s)); !ok || !slices.Equal(list, impl.Gaps(s)) {
			t.Errorf("ParseList of GapText(%d) = %d, %v", gens, list, ok)
		}
	}
}

func TestTextCallsLeaveGens(t *testing.T) {
	calls := map[string]func(s impl.Semigroup) string{"SemigroupText": impl.SemigroupText, "GapText": impl.GapText}
	for name, call := range calls {
		for _, gens := range append(validGens(), invalidGens()...) {
			g := guard(gens)
			first := call(impl.Semigroup{Gens: g.list})
			g.check(t, name, gens)
			want := strings.Clone(first)
			scribble(g.whole)
			if second := call(impl.Semigroup{Gens: gens}); first != want || second != want {
				t.Errorf("%s of %d gives %q and %q after its argument was changed; want %q", name, gens, first, second, want)
			}
		}
	}
}

func TestParseSemigroupGivesNewMemory(t *testing.T) {
	for _, gens := range validGens() {
		text := bracketed(gens)
		first, _ := impl.ParseSemigroup(text)
		second, _ := impl.ParseSemigroup(text)
		scribble(first.Gens)
		third, ok := impl.ParseSemigroup(text)
		if !ok || !slices.Equal(second.Gens, gens) || !slices.Equal(third.Gens, gens) {
			t.Errorf("ParseSemigroup(%q) = %d and %d after another result was changed", text, second.Gens, third.Gens)
		}
	}
}
