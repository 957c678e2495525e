package tests

import (
	"math"
	"math/big"
	"regexp"
	"slices"
	"strings"
	"testing"

	"loop.example/g00595/impl"
)

// Promise 1: integers are parsed from their decimal representation, and
// splitting and joining are inverse.

// parser is what ParseNumber and ParseInt have in common; form is the shape of
// the texts that it accepts, written without a look at the program.
type parser struct {
	name  string
	parse func(string) (int, bool)
	least int
	most  int
	form  *regexp.Regexp
}

func parsers() []parser {
	return []parser{
		{"ParseNumber", impl.ParseNumber, 0, 999999, regexp.MustCompile(`^(0|[1-9][0-9]{0,5})\z`)},
		{"ParseInt", impl.ParseInt, -999999999999, 999999999999, regexp.MustCompile(`^(0|-?[1-9][0-9]{0,11})\z`)},
	}
}

// check holds one call against the form of the texts and, for the value,
// against math/big.
func (p parser) check(t *testing.T, s string) {
	t.Helper()
	want, wantOK := 0, p.form.MatchString(s)
	if wantOK {
		b, _ := new(big.Int).SetString(s, 10)
		want = int(b.Int64())
	}
	if n, ok := p.parse(s); n != want || ok != wantOK {
		t.Errorf("%s(%q) = %d, %v; want %d, %v", p.name, s, n, ok, want, wantOK)
	}
}

func TestFormatInt(t *testing.T) {
	cases := []struct {
		n    int
		want string
	}{
		{0, "0"},
		{5, "5"},
		{-5, "-5"},
		{-1, "-1"},
		{10, "10"},
		{-70, "-70"},
		{1000000, "1000000"},
		{-999999999999, "-999999999999"},
		{math.MaxInt, "9223372036854775807"},
		{-math.MaxInt, "-9223372036854775807"},
		{math.MinInt, "-9223372036854775808"},
		{math.MinInt + 8, "-9223372036854775800"},
	}
	for _, c := range cases {
		if got := impl.FormatInt(c.n); got != c.want {
			t.Errorf("FormatInt(%d) = %q; want %q", c.n, got, c.want)
		}
	}
}

func TestFormatIntAgainstBig(t *testing.T) {
	for _, power := range []int{1, 10, 100, 1000000, 1 << 31, 1 << 32, 1 << 53, 1000000000000000000, math.MinInt} {
		for d := -11; d <= 11; d++ {
			for _, n := range []int{power + d, -(power + d), power * d} {
				if got, want := impl.FormatInt(n), big.NewInt(int64(n)).String(); got != want {
					t.Errorf("FormatInt(%d) = %q; want %q", n, got, want)
				}
			}
		}
	}
}

func TestParseNumberOfEveryNumber(t *testing.T) {
	for n := 0; n <= 999999; n++ {
		if got, ok := impl.ParseNumber(impl.FormatInt(n)); got != n || !ok {
			t.Fatalf("ParseNumber(%q) = %d, %v; want %d, true", impl.FormatInt(n), got, ok, n)
		}
	}
}

func TestParseLimits(t *testing.T) {
	for _, p := range parsers() {
		for _, n := range []int{p.least, p.least + 1, -1, 0, 1, p.most - 1, p.most} {
			want, wantOK := n, true
			if n < p.least {
				want, wantOK = 0, false
			}
			if got, ok := p.parse(impl.FormatInt(n)); got != want || ok != wantOK {
				t.Errorf("%s of %d = %d, %v; want %d, %v", p.name, n, got, ok, want, wantOK)
			}
		}
		for _, n := range []int{p.least - 1, p.least - 2, p.most + 1, p.most + 2, math.MinInt, math.MaxInt} {
			if got, ok := p.parse(impl.FormatInt(n)); got != 0 || ok {
				t.Errorf("%s of %d = %d, %v; want 0, false", p.name, n, got, ok)
			}
		}
	}
	if n, ok := impl.ParseInt("-1"); n != -1 || !ok {
		t.Errorf("ParseInt of -1 = %d, %v", n, ok)
	}
}

func TestParseIntOfSomeIntegers(t *testing.T) {
	for n := 1; n <= 999999999999; n = n*3 + 1 {
		for _, m := range []int{n, -n, n - 1, 1 - n} {
			if got, ok := impl.ParseInt(impl.FormatInt(m)); got != m || !ok {
				t.Errorf("ParseInt of %d = %d, %v; want %d, true", m, got, ok, m)
			}
		}
	}
}

func TestParseRejects(t *testing.T) {
	texts := []string{
		"", " ", "-", "+", "--", "-+", "+-",
		"00", "01", "007", "-0", "+0", "-00", "-01", "-007", "000000", "0000001", "0999999",
		"+5", "--5", "-+5", "+-5", "5-", "5+", "- 5", "-5-",
		" 5", "5 ", "\t5", "5\n", "5\r\n", "5\x00", "\x005", "\ufeff5",
		"1_000", "1,000", "1.0", "5.", ".5", "1e3", "0x10", "0b1", "0o7", "1f", "a", "ten", "Inf", "nan",
		"\u0665", "\uff15", "5\u0301", "\u22125", "\u20115", "\xff", "5\xff",
		// Beyond 64 bits; the remainders modulo 2^64 and 2^32 are small.
		"18446744073709551616", "18446744073709551621", "-18446744073709551621",
		"9223372036854775808", "-9223372036854775809", "340282366920938463463374607431768211461",
		strings.Repeat("9", 1000), "-" + strings.Repeat("9", 1000), strings.Repeat("0", 1000), strings.Repeat("-", 1000),
	}
	for _, p := range parsers() {
		for _, s := range texts {
			if n, ok := p.parse(s); n != 0 || ok {
				t.Errorf("%s(%q) = %d, %v; want 0, false", p.name, s, n, ok)
			}
		}
	}
	// 2^32 + 5 is an integer like any other, but too great a number.
	if n, ok := impl.ParseInt("4294967301"); n != 4294967301 || !ok {
		t.Errorf("ParseInt of 2^32 + 5 = %d, %v", n, ok)
	}
	if n, ok := impl.ParseNumber("4294967301"); n != 0 || ok {
		t.Errorf("ParseNumber of 2^32 + 5 = %d, %v", n, ok)
	}
}

// shortTexts returns all texts of at most most bytes of the alphabet.
func shortTexts(alphabet string, most int) []string {
	all := []string{""}
	last := all
	for range most {
		var next []string
		for _, s := range last {
			for i := range len(alphabet) {
				next = append(next, s+alphabet[i:i+1])
			}
		}
		all = append(all, next...)
		last = next
	}
	return all
}

func TestParseShortTexts(t *testing.T) {
	for _, p := range parsers() {
		for _, s := range shortTexts("019-+ _x", 5) {
			p.check(t, s)
		}
	}
}

func TestParseDigitRuns(t *testing.T) {
	for _, p := range parsers() {
		for length := 1; length <= 40; length++ {
			for _, digits := range []string{"0", "1", "9", "1234567890"} {
				run := strings.Repeat(digits, length)[:length]
				p.check(t, run)
				p.check(t, "-"+run)
				p.check(t, "+"+run)
				p.check(t, "0"+run)
				p.check(t, "1"+strings.Repeat("0", length))
				p.check(t, "-1"+strings.Repeat("0", length))
			}
		}
	}
}

// TestParseReplacedByte puts every byte at every place of a number.
func TestParseReplacedByte(t *testing.T) {
	for _, p := range parsers() {
		for place := range 3 {
			for b := range 256 {
				s := []byte("123")
				s[place] = byte(b)
				p.check(t, string(s))
			}
		}
	}
}

func TestSplitByte(t *testing.T) {
	cases := []struct {
		s    string
		by   byte
		want []string
	}{
		{"", ',', []string{""}},
		{",", ',', []string{"", ""}},
		{",,", ',', []string{"", "", ""}},
		{"a", ',', []string{"a"}},
		{"a,b", ',', []string{"a", "b"}},
		{",a", ',', []string{"", "a"}},
		{"a,", ',', []string{"a", ""}},
		{",a,", ',', []string{"", "a", ""}},
		{"a,,b", ',', []string{"a", "", "b"}},
		{",,a,,b,,", ',', []string{"", "", "a", "", "b", "", ""}},
		{" a , b ", ',', []string{" a ", " b "}},
		{"a;b,c", ';', []string{"a", "b,c"}},
		{"1\n2\n", '\n', []string{"1", "2", ""}},
		{"a\x00b", 0, []string{"a", "b"}},
		{"", 0, []string{""}},
		{"abc", 'b', []string{"a", "c"}},
		{"\xffa\xff", 0xff, []string{"", "a", ""}},
		// Bytes, not characters, are what splits: U+00E9 is C3 A9.
		{"\u00e9", 0xc3, []string{"", "\xa9"}},
		{"\u00e9", 0xa9, []string{"\xc3", ""}},
		{"\u00e9", 0xe9, []string{"\u00e9"}},
		{"a\u00e9b", 'b', []string{"a\u00e9", ""}},
	}
	for _, c := range cases {
		if got := impl.SplitByte(c.s, c.by); !slices.Equal(got, c.want) {
			t.Errorf("SplitByte(%q, %q) = %q; want %q", c.s, c.by, got, c.want)
		}
	}
}

func TestSplitByteWithEveryByte(t *testing.T) {
	var all []byte
	for b := range 256 {
		all = append(all, byte(b))
	}
	text := string(all)
	for b := range 256 {
		want := []string{text[:b], text[b+1:]}
		if got := impl.SplitByte(text, byte(b)); !slices.Equal(got, want) {
			t.Errorf("SplitByte of all bytes by %d = %q; want %q", b, got, want)
		}
	}
}

func TestJoin(t *testing.T) {
	cases := []struct {
		list []string
		by   string
		want string
	}{
		{nil, "-", ""},
		{[]string{}, "-", ""},
		{[]string{""}, "-", ""},
		{[]string{"a"}, "-", "a"},
		{[]string{"a", "b"}, "-", "a-b"},
		{[]string{"a", "b", "c"}, "-", "a-b-c"},
		{[]string{"", ""}, "-", "-"},
		{[]string{"", "a", ""}, "-", "-a-"},
		{[]string{"a", "", "b"}, "-", "a--b"},
		{[]string{"a", "b", "c"}, "", "abc"},
		{[]string{"a", "b", "c"}, ", ", "a, b, c"},
		{[]string{"-", "-"}, "-", "---"},
		{[]string{"\xff", "\x00"}, "\xc3", "\xff\xc3\x00"},
	}
	for _, c := range cases {
		if got := impl.Join(c.list, c.by); got != c.want {
			t.Errorf("Join(%q, %q) = %q; want %q", c.list, c.by, got, c.want)
		}
	}
}

// TestSplitAndJoinAreInverse also counts the parts and looks for the separator
// in them, which joining alone would not notice.
func TestSplitAndJoinAreInverse(t *testing.T) {
	for _, by := range []byte{',', 'a', 0, 0xff, 0xc3} {
		alphabet := string([]byte{',', 'a', 0, 0xff, 0xc3})
		sep := string([]byte{by})
		for _, s := range shortTexts(alphabet, 5) {
			parts := impl.SplitByte(s, by)
			if len(parts) != strings.Count(s, sep)+1 {
				t.Fatalf("SplitByte(%q, %d) has %d parts", s, by, len(parts))
			}
			for _, p := range parts {
				if strings.IndexByte(p, by) >= 0 {
					t.Fatalf("SplitByte(%q, %d) = %q: the separator is in a part", s, by, parts)
				}
			}
			if got := impl.Join(parts, sep); got != s {
				t.Fatalf("Join of SplitByte(%q, %d) = %q", s, by, got)
			}
			if again := impl.SplitByte(impl.Join(parts, sep), by); !slices.Equal(again, parts) {
				t.Fatalf("SplitByte of Join(%q) = %q", parts, again)
			}
		}
	}
}

func TestJoinLeavesItsArgument(t *testing.T) {
	whole := []string{"a", "b", "c", "d"}
	list := whole[:2]
	if got := impl.Join(list, "-"); got != "a-b" {
		t.Errorf("Join = %q", got)
	}
	if !slices.Equal(whole, []string{"a", "b", "c", "d"}) {
		t.Errorf("Join changed its argument: %q", whole)
	}
}

func TestSplitByteGivesNewMemory(t *testing.T) {
	first := impl.SplitByte("a,b,c", ',')
	for i := range first {
		first[i] = "x"
	}
	_ = append(first, "y")
	if second := impl.SplitByte("a,b,c", ','); !slices.Equal(second, []string{"a", "b", "c"}) {
		t.Errorf("SplitByte = %q after an earlier result was changed", second)
	}
}
