package tests

import (
	"regexp"
	"slices"
	"strconv"
	"strings"
	"sync"
	"testing"

	"loop.example/g00595/impl"
)

// Promise 30: at every moment of a session both are semigroups.

// state is a session: the Gens of both semigroups.
type state struct{ now, kept []int }

func (s state) session() impl.Session {
	return impl.Session{Now: impl.Semigroup{Gens: s.now}, Kept: impl.Semigroup{Gens: s.kept}}
}

func stateOf(s impl.Session) state { return state{s.Now.Gens, s.Kept.Gens} }

func (s state) equals(other state) bool {
	return slices.Equal(s.now, other.now) && slices.Equal(s.kept, other.kept)
}

func (s state) clone() state { return state{slices.Clone(s.now), slices.Clone(s.kept)} }

// key tells states from each other.
func (s state) key() string { return listTextByText(s.now) + ";" + listTextByText(s.kept) }

var numberForm = regexp.MustCompile(`^(0|-?[1-9][0-9]{0,11})\z`)

func numberByText(text string) (int, bool) {
	if !numberForm.MatchString(text) {
		return 0, false
	}
	n, _ := strconv.Atoi(text)
	return n, true
}

func listByText(text string) ([]int, bool) {
	if text == "none" {
		return nil, true
	}
	var list []int
	for _, part := range strings.Split(text, ",") {
		n, ok := numberByText(part)
		if !ok {
			return nil, false
		}
		list = append(list, n)
	}
	return list, true
}

func (s state) become(gens []int, ok bool) (state, string) {
	if !ok {
		return s, "no"
	}
	return state{gens, s.kept}, bracketed(gens)
}

// afterLine follows the text of the document.
func (s state) afterLine(line string) (state, string) {
	place := strings.Index(line, " ")
	if place < 0 {
		return s.afterWord(line)
	}
	word, text := line[:place], line[place+1:]
	switch word {
	case "semigroup":
		return s.become(parseByText(text))
	case "sums", "gaps":
		list, ok := listByText(text)
		switch {
		case !ok:
			return s, "what"
		case word == "sums":
			return s.become(fromGensByText(list))
		}
		return s.become(fromGapsByText(list))
	}
	if n, ok := numberByText(text); ok {
		return s.afterNumber(word, n)
	}
	return s, "what"
}

func (s state) afterNumber(word string, n int) (state, string) {
	switch word {
	case "example":
		if n < 1 || n > 6 {
			return s, "no"
		}
		return s.become(exampleGens()[n], true)
	case "quotient":
		return s.become(quotientByText(s.now, n))
	case "insert":
		return s.become(addGapByText(s.now, n))
	case "remove":
		return s.become(removeByText(s.now, n))
	}
	return s, numberAnswer(s.now, word, n)
}

func (s state) afterWord(word string) (state, string) {
	switch word {
	case "keep":
		return state{s.now, s.now}, "ok"
	case "swap":
		return state{s.kept, s.now}, "ok"
	case "meet":
		return s.become(meetByText(s.now, s.kept))
	case "add":
		return s.become(addByText(s.now, s.kept))
	case "parent":
		return s.become(parentByText(s.now))
	case "arf":
		return s.become(closureByText(s.now))
	case "blowup":
		return s.become(blowUpByText(s.now))
	case "within":
		return s, yesByText(isWithinByText(s.now, s.kept))
	}
	return s, wordAnswer(s.now, word)
}

func yesByText(holds bool) string {
	if holds {
		return "yes"
	}
	return "no"
}

func textsByText(texts []string, by string, ok bool) string {
	switch {
	case !ok:
		return "no"
	case len(texts) == 0:
		return "none"
	}
	return strings.Join(texts, by)
}

func wordAnswer(gens []int, word string) string {
	var texts []string
	switch word {
	case "show":
		if isSemigroupByText(gens) {
			return bracketed(gens)
		}
		return ""
	case "describe":
		return describeByText(gens)
	case "betti":
		list, ok := bettiByText(gens)
		return textsByText([]string{listTextByText(list)}, "", ok)
	case "larger":
		list, ok := largerByText(gens)
		return textsByText([]string{strconv.Itoa(len(list))}, "", ok)
	case "children":
		list, ok := childrenByText(gens)
		for _, child := range list {
			texts = append(texts, bracketed(child))
		}
		return textsByText(texts, " ", ok)
	case "decompose":
		list, ok := decompositionByText(gens)
		for _, part := range list {
			texts = append(texts, bracketed(part))
		}
		return textsByText(texts, " ", ok)
	case "sequence":
		list, ok := sequenceByText(gens)
		return textsByText([]string{listTextByText(list)}, "", ok)
	}
	return "what"
}

func numberAnswer(gens []int, word string, n int) string {
	switch word {
	case "in":
		return yesByText(isSemigroupByText(gens) && n >= 0 && (n >= 200 || searchedSums(gens, n)[n]))
	case "least":
		return listTextByText(aperyByText(gens, n))
	case "factors":
		var texts []string
		for _, list := range factorizationsByText(gens, n) {
			texts = append(texts, factorTextByText(gens, list))
		}
		return textsByText(texts, ";", true)
	case "lengths":
		return listTextByText(lengthFactsByText(gens, n).lengths)
	case "catenary":
		return strconv.Itoa(catenaryByText(gens, n))
	case "bound":
		return strconv.Itoa(at(boundFactsByText(gens).order, n))
	}
	return "what"
}

// compareLine executes one line and compares it with the document's text.
func compareLine(t *testing.T, before state, line string) state {
	t.Helper()
	next, output := impl.ExecuteLine(before.session(), line)
	want, wantOutput := before.afterLine(line)
	if got := stateOf(next); !got.equals(want) || output != wantOutput {
		t.Fatalf("of %d and %d, %q makes %d and %d with the output %q; want %d and %d with %q", before.now, before.kept, line, got.now, got.kept, output, want.now, want.kept, wantOutput)
	}
	return want
}

// changingLines may change the session.
func changingLines() []string {
	return []string{
		"semigroup <3,5>", "semigroup <1>", "semigroup <4,5,6,7>", "semigroup <5,51>", "semigroup <2,4>", "semigroup <5,3>", "semigroup", "semigroup ",
		"semigroup 3,5", "semigroup <3,5> ", "semigroup  <3,5>", "semigroup none", "semigroup <none>", "semigroup x",
		"sums 4,6,9", "sums 9,6,4,10", "sums 1", "sums 2,4", "sums none", "sums 0", "sums 61", "sums -3", "sums 4,,6", "sums 4, 6", "sums", "sums ", "sums x", "sums 04,9", "sums 1000000000000",
		"gaps 1,2,3", "gaps none", "gaps 1", "gaps 2", "gaps 2,1", "gaps 0", "gaps", "gaps ", "gaps 1,x", "gaps 1,2,", "gaps +1", "gaps 1,2,4,7",
		"example 1", "example 2", "example 3", "example 4", "example 5", "example 6", "example 0", "example 7", "example -1", "example x", "example", "example ", "example 01", "example 1 ",
		"keep", "swap", "keep ", "swap ", "keep x", "swap 1", "meet", "add", "meet ", "add x", "parent", "arf", "blowup", "parent ", "arf 1", "blowup x",
		"quotient 1", "quotient 2", "quotient 3", "quotient 20", "quotient 21", "quotient 0", "quotient -2", "quotient", "quotient x", "quotient 999999999999", "quotient 1000000000000",
		"insert 7", "insert 4", "insert 2", "insert 1", "insert 11", "insert 0", "insert -1", "insert 3", "insert", "insert ", "insert 4,5",
		"remove 1", "remove 3", "remove 4", "remove 5", "remove 9", "remove 8", "remove 0", "remove -999999999999", "remove", "remove x", "remove 3 5",
	}
}

// askingLines never change it.
func askingLines() []string {
	return []string{
		"show", "describe", "within", "betti", "larger", "children", "decompose", "sequence",
		"show ", "describe x", "within 3", "betti ", "larger 5", "children ", "decompose none", "sequence <3,5>",
		"in 0", "in 7", "in 8", "in 4", "in -1", "in 199", "in 200", "in 999999999999", "in 1000000000000", "in -999999999999", "in", "in ", "in x", "in 7,8",
		"least 3", "least 4", "least 1", "least 0", "least 60", "least 61", "least -3", "least", "least x",
		"factors 15", "factors 0", "factors 7", "factors 36", "factors 100", "factors 101", "factors -1", "factors", "factors 1.5",
		"lengths 15", "lengths 0", "lengths 7", "lengths 36", "lengths 100", "lengths 101", "lengths -1", "lengths", "lengths 1e1",
		"catenary 15", "catenary 0", "catenary 7", "catenary 36", "catenary 101", "catenary -1", "catenary", "catenary 0x1",
		"bound 8", "bound 0", "bound 11", "bound 500", "bound 501", "bound -1", "bound", "bound 1_0",
	}
}

// strangeLines are of no form.
func strangeLines() []string {
	return []string{
		"", " ", "  ", "what", "no", "ok", "yes", "none", "x", "3", "<3,5>", "Show", "SHOW", "Keep", "KEEP", "In 7", "SEMIGROUP <3,5>", "Example 1", "exampl 1", "examples 1",
		" show", " keep", " in 7", " example 1", "\tshow", "show\t", "show\n", "show\r", "keep\nswap", "show\x00", "sho", "showw", "in\t7", "in  7", "in 7 ", "in 7\n", "in 7\r", "in +7", "in 07", "in -0",
		"example\t1", "example=1", "example1", "example  1", "quotient 2 ", "insert  7", "sums  4,6,9", "sums 4,6,9 ", "sums 4 6 9", "sums 4;6;9", "gaps  1", "gaps 1 ", "gaps <1>",
		"keep keep", "swap\x00", "describe ", "within ", "is 7", "new", "\xff", "in \xff", "sums \xff", "gaps ４", "bounds 8", "betty", "child", "parents", "decomposed",
	}
}

func allLines() []string { return slices.Concat(changingLines(), askingLines(), strangeLines()) }

func TestEachForm(t *testing.T) {
	three, four := []int{3, 5}, []int{4, 6, 9}
	begin := state{three, four}
	// nothing is the session in which the line has changed nothing.
	nothing := begin
	now := func(gens ...int) state { return state{gens, four} }
	cases := []struct {
		line, output string
		after        state
	}{
		{"semigroup <5,7,9,11>", "<5,7,9,11>", now(5, 7, 9, 11)},
		{"semigroup <2,4>", "no", nothing},
		{"semigroup ", "no", nothing},
		{"semigroup <3,5> ", "no", nothing},
		{"semigroup", "what", nothing},
		{"sums 9,6,4,10", "<4,6,9>", now(4, 6, 9)},
		{"sums 2,4", "no", nothing},
		{"sums none", "no", nothing},
		{"sums 61", "no", nothing},
		{"sums 4,,6", "what", nothing},
		{"sums ", "what", nothing},
		{"sums", "what", nothing},
		{"gaps 1,2,3", "<4,5,6,7>", now(4, 5, 6, 7)},
		{"gaps none", "<1>", now(1)},
		{"gaps 2", "no", nothing},
		{"gaps 1,2,", "what", nothing},
		{"gaps ", "what", nothing},
		{"gaps", "what", nothing},
		{"example 6", "<5,7,9,11>", now(5, 7, 9, 11)},
		{"example 5", "<1>", now(1)},
		{"example 7", "no", nothing},
		{"example 0", "no", nothing},
		{"example -1", "no", nothing},
		{"example x", "what", nothing},
		{"example ", "what", nothing},
		{"example", "what", nothing},
		{"keep", "ok", state{three, three}},
		{"swap", "ok", state{four, three}},
		{"keep ", "what", nothing},
		{"swap x", "what", nothing},
		{"meet", "<6,8,9,10,13>", now(6, 8, 9, 10, 13)},
		{"add", "<3,4,5>", now(3, 4, 5)},
		{"meet ", "what", nothing},
		{"add x", "what", nothing},
		{"parent", "<3,5,7>", now(3, 5, 7)},
		{"arf", "<3,5,7>", now(3, 5, 7)},
		{"blowup", "<2,3>", now(2, 3)},
		{"parent ", "what", nothing},
		{"arf x", "what", nothing},
		{"blowup 1", "what", nothing},
		{"quotient 2", "<3,4,5>", now(3, 4, 5)},
		{"quotient 1", "<3,5>", nothing},
		{"quotient 21", "no", nothing},
		{"quotient 0", "no", nothing},
		{"quotient x", "what", nothing},
		{"quotient", "what", nothing},
		{"insert 7", "<3,5,7>", now(3, 5, 7)},
		{"insert 4", "no", nothing},
		{"insert 3", "no", nothing},
		{"insert x", "what", nothing},
		{"insert", "what", nothing},
		{"remove 5", "<3,8,10>", now(3, 8, 10)},
		{"remove 3", "<5,6,8,9>", now(5, 6, 8, 9)},
		{"remove 4", "no", nothing},
		{"remove 6", "no", nothing},
		{"remove x", "what", nothing},
		{"remove", "what", nothing},
		{"show", "<3,5>", nothing},
		{"show ", "what", nothing},
		{"describe", "frobenius 7 genus 4 type 1 symmetric gaps 1,2,4,7 least 0,10,5 wilf 0", nothing},
		{"describe x", "what", nothing},
		{"in 8", "yes", nothing},
		{"in 7", "no", nothing},
		{"in -3", "no", nothing},
		{"in 999999999999", "yes", nothing},
		{"in 1000000000000", "what", nothing},
		{"in", "what", nothing},
		{"within", "no", nothing},
		{"within 3", "what", nothing},
		{"least 3", "0,10,5", nothing},
		{"least 4", "none", nothing},
		{"least 61", "none", nothing},
		{"least 03", "what", nothing},
		{"least", "what", nothing},
		{"factors 15", "5*3;3*5", nothing},
		{"factors 8", "1*3+1*5", nothing},
		{"factors 0", "0", nothing},
		{"factors 7", "none", nothing},
		{"factors 101", "none", nothing},
		{"factors x", "what", nothing},
		{"factors", "what", nothing},
		{"lengths 15", "3,5", nothing},
		{"lengths 0", "0", nothing},
		{"lengths 7", "none", nothing},
		{"lengths 101", "none", nothing},
		{"lengths x", "what", nothing},
		{"lengths", "what", nothing},
		{"catenary 15", "5", nothing},
		{"catenary 7", "0", nothing},
		{"catenary 101", "-1", nothing},
		{"catenary -1", "-1", nothing},
		{"catenary x", "what", nothing},
		{"catenary", "what", nothing},
		{"bound 8", "3", nothing},
		{"bound 0", "1", nothing},
		{"bound 501", "0", nothing},
		{"bound x", "what", nothing},
		{"bound", "what", nothing},
		{"betti", "15", nothing},
		{"larger", "5", nothing},
		{"children", "none", nothing},
		{"decompose", "<3,5>", nothing},
		{"sequence", "3,2,1", nothing},
		{"betti ", "what", nothing},
		{"larger 5", "what", nothing},
		{"children x", "what", nothing},
		{"decompose ", "what", nothing},
		{"sequence 3", "what", nothing},
		{"", "what", nothing},
		{" ", "what", nothing},
		{" show", "what", nothing},
		{"Show", "what", nothing},
		{"KEEP", "what", nothing},
		{"In 8", "what", nothing},
		{"in  8", "what", nothing},
		{"in 8 ", "what", nothing},
		{"show\n", "what", nothing},
	}
	for _, c := range cases {
		if after, output := begin.afterLine(c.line); !after.equals(c.after) || output != c.output {
			t.Errorf("the test itself is wrong: %q: %d, %d, %q", c.line, after.now, after.kept, output)
		}
		after, output := impl.ExecuteLine(begin.session(), c.line)
		if got := stateOf(after); !got.equals(c.after) || output != c.output {
			t.Errorf("%q makes %d and %d with the output %q; want %d and %d with %q", c.line, got.now, got.kept, output, c.after.now, c.after.kept, c.output)
		}
	}
}

// TestFormsOfOtherSessions takes sessions for which the other forms fail, or have
// nothing to tell, and such for which they do not.
func TestFormsOfOtherSessions(t *testing.T) {
	one, wide := []int{1}, allFrom(12)
	cases := []struct {
		before       state
		line, output string
	}{
		{state{one, one}, "parent", "no"},
		{state{wide, []int{9, 13, 14, 15, 16, 17, 19, 20, 21}}, "meet", "no"},
		{state{wide, wide}, "add", "no"},
		{state{[]int{3, 59}, one}, "arf", "no"},
		{state{nil, one}, "blowup", "no"},
		{state{[]int{13, 18, 28}, one}, "quotient 5", "no"},
		{state{wide, one}, "insert 11", "<11,12,13,14,15,16,17,18,19,20,21>"},
		{state{wide, one}, "remove 12", "no"},
		{state{one, one}, "betti", "none"},
		{state{[]int{5, 51}, one}, "betti", "no"},
		{state{[]int{2, 21}, one}, "larger", "no"},
		{state{[]int{2, 19}, one}, "larger", "10"},
		{state{one, one}, "larger", "1"},
		{state{wide, one}, "children", "no"},
		{state{one, one}, "children", "<2,3>"},
		{state{[]int{3, 5, 7}, one}, "children", "<3,7,8> <3,5>"},
		{state{[]int{2, 21}, one}, "decompose", "no"},
		{state{one, one}, "decompose", "<1>"},
		{state{[]int{4, 5, 6, 7}, one}, "decompose", "<3,4,5> <2,5>"},
		{state{one, one}, "sequence", "1"},
		{state{nil, one}, "sequence", "no"},
		{state{one, []int{3, 5}}, "within", "no"},
		{state{[]int{3, 5}, one}, "within", "yes"},
		{state{one, one}, "describe", "frobenius -1 genus 0 type 1 symmetric gaps none least 0 wilf 0"},
		{state{one, one}, "factors 3", "3*1"},
		{state{[]int{4, 6, 9}, one}, "factors 18", "3*4+1*6;3*6;2*9"},
		{state{[]int{4, 6, 9}, one}, "betti", "12,18"},
	}
	for _, c := range cases {
		after, output := impl.ExecuteLine(c.before.session(), c.line)
		if want, byText := c.before.afterLine(c.line); byText != c.output || !stateOf(after).equals(want) || output != c.output {
			t.Errorf("of %d and %d, %q makes %d and %d with the output %q; want %q, or %q", c.before.now, c.before.kept, c.line, after.Now.Gens, after.Kept.Gens, output, c.output, byText)
		}
	}
}

// TestReachedSessions goes on from the new session by all lines that may change
// something, and asks each session everything.
func TestReachedSessions(t *testing.T) {
	begin := stateOf(impl.NewSession())
	known := map[string]bool{begin.key(): true}
	open := []state{begin}
	for i := 0; i < len(open) && i < 120; i++ {
		for _, line := range changingLines() {
			after := compareLine(t, open[i], line)
			if !isSemigroupByText(after.now) || !isSemigroupByText(after.kept) {
				t.Fatalf("%q makes %d and %d", line, after.now, after.kept)
			}
			if !known[after.key()] {
				known[after.key()] = true
				open = append(open, after)
			}
		}
	}
	if len(open) < 200 {
		t.Errorf("the test itself is wrong: only %d sessions", len(open))
	}
	asked := map[string]bool{}
	for _, s := range open {
		compareLine(t, s, "within")
		if asked[listTextByText(s.now)] {
			continue
		}
		asked[listTextByText(s.now)] = true
		for _, line := range askingLines() {
			compareLine(t, s, line)
		}
	}
}

// someStates are sessions of semigroups, of what is none and the zero Session.
func someStates() []state {
	states := []state{
		{nil, nil}, {[]int{3, 5}, []int{3, 5}}, {[]int{3, 5}, []int{4, 6, 9}}, {[]int{4, 6, 9}, []int{2, 5}}, {[]int{1}, []int{1}}, {[]int{3, 5, 7}, []int{1}},
		{[]int{4, 5, 6, 7}, allFrom(10)}, {allFrom(12), []int{5, 51}}, {[]int{6, 9, 20}, []int{3, 59}}, {[]int{5, 51}, allFrom(12)},
	}
	for _, gens := range invalidGens() {
		states = append(states, state{gens, []int{3, 5}}, state{[]int{4, 6, 9}, gens})
	}
	return states
}

func TestLinesOfSomeSessions(t *testing.T) {
	for _, s := range someStates() {
		for _, line := range allLines() {
			compareLine(t, s, line)
		}
	}
}

// TestWhatChangesNothing: questions, and lines of which the output is "no" or
// "what", leave both as they are.
func TestWhatChangesNothing(t *testing.T) {
	count := map[string]int{}
	for _, s := range someStates() {
		for _, line := range allLines() {
			after, output := impl.ExecuteLine(s.session(), line)
			if output == "no" || output == "what" || slices.Contains(askingLines(), line) || slices.Contains(strangeLines(), line) {
				count[output]++
				if !impl.EqualSession(after, s.session()) || !stateOf(after).equals(s) {
					t.Fatalf("of %d and %d, %q with the output %q makes %d and %d", s.now, s.kept, line, output, after.Now.Gens, after.Kept.Gens)
				}
			}
			if slices.Contains(strangeLines(), line) && output != "what" {
				t.Fatalf("%q has the output %q", line, output)
			}
		}
	}
	if count["no"] < 300 || count["what"] < 1000 {
		t.Errorf("the test itself is wrong: %v", count)
	}
}

func TestNewSession(t *testing.T) {
	s := impl.NewSession()
	if !slices.Equal(s.Now.Gens, []int{3, 5}) || !slices.Equal(s.Kept.Gens, []int{3, 5}) {
		t.Errorf("NewSession has %d and %d", s.Now.Gens, s.Kept.Gens)
	}
	if impl.SemigroupText(s.Now) != impl.ExampleText(1) || impl.SemigroupText(s.Kept) != impl.ExampleText(1) {
		t.Errorf("NewSession has %s and %s", impl.SemigroupText(s.Now), impl.SemigroupText(s.Kept))
	}
	if impl.MaxLines != 40 {
		t.Errorf("MaxLines = %d", impl.MaxLines)
	}
}

func TestEqualSession(t *testing.T) {
	lists := [][]int{nil, {}, {1}, {3, 5}, {3}, {5, 3}, {3, 5, 7}, {4, 6, 9}, {-7}, {61}}
	for _, a := range shortLists(numbersFrom(0, len(lists)-1), 2) {
		for _, b := range shortLists(numbersFrom(0, len(lists)-1), 2) {
			if len(a) < 2 || len(b) < 2 {
				continue
			}
			x, y := state{lists[a[0]], lists[a[1]]}, state{lists[b[0]], lists[b[1]]}
			if got := impl.EqualSession(x.session(), y.session()); got != x.equals(y) {
				t.Errorf("EqualSession(%d, %d, %d, %d) = %v", x.now, x.kept, y.now, y.kept, got)
			}
		}
	}
	if !impl.EqualSession(impl.Session{}, state{[]int{}, []int{}}.session()) || impl.EqualSession(impl.Session{}, impl.NewSession()) {
		t.Error("EqualSession of the zero Session is wrong")
	}
}

// runByLines is RunSession by the text of the document.
func runByLines(text string) ([]string, bool) {
	lines := strings.Split(text, "\n")
	if len(lines) > 40 {
		return nil, false
	}
	s := state{[]int{3, 5}, []int{3, 5}}
	var outputs []string
	for _, line := range lines {
		var output string
		s, output = s.afterLine(line)
		outputs = append(outputs, output)
	}
	return outputs, true
}

func TestRunSession(t *testing.T) {
	cases := []struct {
		text string
		want []string
	}{
		{"show", []string{"<3,5>"}},
		// A text of no lines is one empty line, and so is what is behind the last
		// newline.
		{"", []string{"what"}},
		{"\n", []string{"what", "what"}},
		{"show\n", []string{"<3,5>", "what"}},
		{"\nshow", []string{"what", "<3,5>"}},
		{"keep\n\nswap", []string{"ok", "what", "ok"}},
		// A session goes on.
		{"parent\nshow\nkeep\nparent\nswap\nshow\nwithin", []string{"<3,5,7>", "<3,5,7>", "ok", "<3,4,5>", "ok", "<3,5,7>", "yes"}},
		{"example 2\nmeet\nswap\nadd\nshow", []string{"<4,6,9>", "<6,8,9,10,13>", "ok", "<3,5>", "<3,5>"}},
		{"gaps 2\nshow\nsums x\nshow\nexample 7\nshow", []string{"no", "<3,5>", "what", "<3,5>", "no", "<3,5>"}},
		{"keep\nexample 6\narf\nswap\nshow\nswap\nshow", []string{"ok", "<5,7,9,11>", "<5,7,9,11,13>", "ok", "<3,5>", "ok", "<5,7,9,11,13>"}},
		{"show\r\nshow", []string{"what", "<3,5>"}},
		{"remove 3\ninsert 3", []string{"<5,6,8,9>", "<3,5>"}},
	}
	for _, c := range cases {
		if byText, ok := runByLines(c.text); !slices.Equal(byText, c.want) || !ok {
			t.Errorf("the test itself is wrong: %q: %q", c.text, byText)
		}
		if got, ok := impl.RunSession(c.text); !slices.Equal(got, c.want) || !ok {
			t.Errorf("RunSession(%q) = %q, %v; want %q", c.text, got, ok, c.want)
		}
	}
}

func TestRunSessionOfManyLines(t *testing.T) {
	for count := 1; count <= 60; count++ {
		for _, line := range []string{"show", "", "parent", "keep"} {
			text := strings.Repeat(line+"\n", count-1) + line
			want, wantOK := runByLines(text)
			got, ok := impl.RunSession(text)
			if !slices.Equal(got, want) || ok != wantOK || ok != (count <= 40) {
				t.Fatalf("RunSession of %d lines %q = %q, %v; want %q", count, line, got, ok, want)
			}
		}
		// With a newline at the end, there is one more line.
		if got, ok := impl.RunSession(strings.Repeat("show\n", count)); ok != (count < 40) || ok && len(got) != count+1 || !ok && len(got) > 0 {
			t.Fatalf("RunSession of %d lines that end with newlines = %q, %v", count, got, ok)
		}
	}
	if got, ok := impl.RunSession(strings.Repeat("\n", 100000)); len(got) > 0 || ok {
		t.Errorf("RunSession of 100001 lines = %d outputs, %v", len(got), ok)
	}
}

// TestRunSessionLineByLine cuts the lines of all kinds into texts, and holds them
// against the lines one by one.
func TestRunSessionLineByLine(t *testing.T) {
	lines := slices.DeleteFunc(allLines(), func(line string) bool { return strings.Contains(line, "\n") })
	for _, step := range []int{1, 7, 11, 29} {
		for start := 0; start < len(lines); start += 13 {
			var some []string
			for i := range 40 {
				some = append(some, lines[(start+i*step)%len(lines)])
			}
			text := strings.Join(some, "\n")
			want, _ := runByLines(text)
			got, ok := impl.RunSession(text)
			if !slices.Equal(got, want) || !ok {
				t.Fatalf("RunSession(%q) = %q, %v; want %q", text, got, ok, want)
			}
			s := impl.NewSession()
			for i, line := range some {
				var output string
				s, output = impl.ExecuteLine(s, line)
				if output != got[i] || !impl.IsSemigroup(s.Now) || !impl.IsSemigroup(s.Kept) {
					t.Fatalf("%q in a session has the output %q; want %q; and makes %d and %d", line, output, got[i], s.Now.Gens, s.Kept.Gens)
				}
			}
		}
	}
}

// TestSessionsAtTheSameTime: no session changes another one, and one session may
// be handed to several calls.
func TestSessionsAtTheSameTime(t *testing.T) {
	texts := []string{"parent\nkeep\nshow\ndescribe", "example 6\narf\nkeep\nshow", "sums 4,6,9\nmeet\nswap\nshow\nchildren", "example 1\nshow\nbound 8\nlarger"}
	shared := state{[]int{4, 6, 9}, []int{3, 5}}.session()
	var callers sync.WaitGroup
	for i := range 8 {
		callers.Go(func() {
			text := texts[i%len(texts)]
			want, _ := runByLines(text)
			for range 5 {
				if got, _ := impl.RunSession(text); !slices.Equal(got, want) {
					t.Errorf("RunSession(%q) = %q; want %q", text, got, want)
				}
				if after, output := impl.ExecuteLine(shared, "swap"); output != "ok" || !slices.Equal(after.Now.Gens, []int{3, 5}) {
					t.Errorf("swap makes %d with the output %q", after.Now.Gens, output)
				}
			}
		})
	}
	callers.Wait()
}

func TestLinesLeaveTheSession(t *testing.T) {
	for _, s := range someStates() {
		for _, line := range allLines() {
			now, kept := guard(s.now), guard(s.kept)
			before := state{now.list, kept.list}.session()
			after, output := impl.ExecuteLine(before, line)
			impl.EqualSession(before, after)
			want := stateOf(after).clone()
			now.check(t, line, s.now)
			kept.check(t, line, s.kept)
			// Neither of the results may change with the arguments.
			scribble(now.whole)
			scribble(kept.whole)
			if !stateOf(after).equals(want) {
				t.Fatalf("%q makes %d and %d after its session was changed; want %d and %d", line, after.Now.Gens, after.Kept.Gens, want.now, want.kept)
			}
			// Nor with each other, nor with later results.
			again, outputAgain := impl.ExecuteLine(s.session(), line)
			scribble(after.Now.Gens)
			if !slices.Equal(after.Kept.Gens, want.kept) {
				t.Fatalf("after %q of %d and %d, Kept changes with Now", line, s.now, s.kept)
			}
			scribble(after.Kept.Gens)
			if !stateOf(again).equals(want) || output != outputAgain {
				t.Fatalf("%q makes %d and %d with the output %q after another result was changed; want %d and %d with %q", line, again.Now.Gens, again.Kept.Gens, outputAgain, want.now, want.kept, output)
			}
		}
	}
}

// TestLinesOfOneListTwice hands over a session whose semigroups share their Gens.
func TestLinesOfOneListTwice(t *testing.T) {
	for _, gens := range [][]int{{3, 5}, {1}, {4, 6, 9}, nil, {2}} {
		for _, line := range allLines() {
			g := guard(gens)
			after, _ := impl.ExecuteLine(state{g.list, g.list}.session(), line)
			want, _ := state{gens, gens}.afterLine(line)
			scribble(after.Now.Gens)
			g.check(t, line, gens)
			if !slices.Equal(after.Kept.Gens, want.kept) {
				t.Fatalf("after %q, Kept changes with Now", line)
			}
			scribble(after.Kept.Gens)
			g.check(t, line, gens)
		}
	}
}

// TestSessionsAreNewMemory changes the results that come from the examples, which
// are parsed only once.
func TestSessionsAreNewMemory(t *testing.T) {
	for range 3 {
		s := impl.NewSession()
		scribble(s.Now.Gens)
		if !slices.Equal(s.Kept.Gens, []int{3, 5}) {
			t.Fatalf("in a new session, Kept changes with Now")
		}
		scribble(s.Kept.Gens)
		for k := 1; k <= 6; k++ {
			after, output := impl.ExecuteLine(impl.NewSession(), "example "+strconv.Itoa(k))
			if output != impl.ExampleText(k) || !slices.Equal(after.Now.Gens, exampleGens()[k]) || !slices.Equal(after.Kept.Gens, []int{3, 5}) {
				t.Fatalf("example %d makes %d and %d after other results were changed", k, after.Now.Gens, after.Kept.Gens)
			}
			scribble(after.Now.Gens)
			scribble(after.Kept.Gens)
			if got := impl.DescribeExample(k); got != describeByText(exampleGens()[k]) {
				t.Fatalf("DescribeExample(%d) = %q after other results were changed", k, got)
			}
		}
	}
	first, _ := impl.RunSession("show\nkeep")
	for i := range first {
		first[i] = "?"
	}
	if second, ok := impl.RunSession("show\nkeep"); !ok || !slices.Equal(second, []string{"<3,5>", "ok"}) {
		t.Errorf("RunSession gives %q after another result was changed", second)
	}
}
