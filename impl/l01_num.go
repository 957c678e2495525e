package impl

import (
	"strconv"
	"strings"
)

const (
	mostParsedNumber = 999999
	mostParsedInt    = 999999999999
)

func FormatInt(n int) string { return strconv.Itoa(n) }

// The results of ParseNumber and ParseInt are unnamed and set after the call
// that may panic, so that they are still zero when the panic is recovered.

func ParseNumber(s string) (int, bool) {
	defer func() { _ = recover() }()
	n := mustParse(s, 0, mostParsedNumber)
	return n, true
}

func ParseInt(s string) (int, bool) {
	defer func() { _ = recover() }()
	n := mustParse(s, -mostParsedInt, mostParsedInt)
	return n, true
}

// mustParse returns the integer from least to most whose FormatInt is s; it
// panics if there is none. Atoi alone also reads "+5", "007" and "-0", which
// are not what FormatInt writes, so its result is formatted again.
func mustParse(s string, least int, most int) int {
	n, err := strconv.Atoi(s)
	if err != nil || FormatInt(n) != s {
		panic("malformed integer")
	}
	if n < least || n > most {
		panic("integer beyond its limits")
	}
	return n
}

// SplitByte makes its separator from a byte slice, because string(by) would
// encode a byte from 128 on as two bytes.
func SplitByte(s string, by byte) []string {
	return strings.Split(s, string([]byte{by}))
}

func Join(list []string, by string) string { return strings.Join(list, by) }
