// Package num is layer 1: numbers as digits. See shared/doc/01-num.md.
package num

import (
	"iter"
	"strings"

	"bellrope/api"
)

const (
	mostDigits = 18 // so that every accepted number fits into an int
	mostWidth  = 64
	mostWord   = 1<<32 - 1
)

// Print returns the decimal representation of n.
func Print(n int) string {
	var text [20]byte
	at := len(text)
	rest := uint(n)
	if n < 0 {
		rest = -rest // also right for the least int, whose negation is no int
	}
digit:
	at--
	text[at] = byte('0' + rest%10)
	rest /= 10
	if rest > 0 {
		goto digit
	}
	if n < 0 {
		return "-" + string(text[at:])
	}
	return string(text[at:])
}

// Parse returns the integer of which s is the decimal representation, if it is in the range from least to most.
func Parse(s string, least, most int) (int, api.Fault) {
	outside := func(n int) bool { return n < least || n > most }
	n, ok := value(s)
	if !ok {
		return 0, api.Syntax
	}
	if outside(n) {
		return 0, api.Range
	}
	return n, api.OK
}

// value returns the integer that s represents, and whether it represents one with few enough digits.
func value(s string) (int, bool) {
	digits := strings.TrimPrefix(s, "-")
	if len(digits) == 0 || len(digits) > mostDigits {
		return 0, false
	}
	n := 0
	for i := range len(digits) {
		if digits[i] < '0' || digits[i] > '9' {
			return 0, false
		}
		n = n*10 + int(digits[i]-'0')
	}
	if len(digits) < len(s) {
		n = -n
	}
	// Leading zeros and -0 are the spellings that printing does not give back.
	return n, Print(n) == s
}

// Word returns what Parse returns for the range of 32-bit words.
func Word(s string) (uint32, api.Fault) {
	n, f := Parse(s, 0, mostWord)
	return uint32(n), f
}

// Pad returns the decimal representation of n, padded on the left with blanks.
func Pad(n, width int) string {
	text := Print(n)
	wide := min(max(width, 0), mostWidth)
	return strings.Repeat(" ", max(wide-len(text), 0)) + text
}

// Join returns the decimal representations of the elements of l, separated by by.
func Join(l []int, by string) string {
	var out strings.Builder
	for i, n := range l {
		if i > 0 {
			out.WriteString(by)
		}
		out.WriteString(Print(n))
	}
	return out.String()
}

// Split parses the parts of s between the occurrences of by.
func Split(s, by string, least, most int) ([]int, api.Fault) {
	if s == "" {
		return nil, api.OK
	}
	if by == "" {
		return nil, api.Syntax
	}
	var l []int
	fault := api.OK
split:
	for part := range parts(s, by) {
		n, f := Parse(part, least, most)
		if f != api.OK {
			l, fault = nil, f
			break split
		}
		l = append(l, n)
	}
	return l, fault
}

// parts visits the parts of s between the occurrences of by, from the left.
func parts(s, by string) iter.Seq[string] {
	return func(yield func(string) bool) {
		rest := s
		for {
			at := strings.Index(rest, by)
			if at < 0 {
				yield(rest)
				return
			}
			if !yield(rest[:at]) {
				return
			}
			rest = rest[at+len(by):]
		}
	}
}
