// Package impl models a brickworks and the bricklayers who use its bricks.
package impl

import (
	"strconv"
	"strings"
)

// Codes: the result of a call that may fail.
const (
	OK = iota
	ErrInvalid
	ErrRange
	ErrNotFound
	ErrExists
	ErrFull
	ErrState
	ErrSyntax
	ErrFormat
	ErrClash
	ErrCracked
)

// MaxName is the greatest number of letters of a name.
const MaxName = 12

// maxDigits is the greatest number of digits that is read: every such number fits into an int64.
const maxDigits = 18

// codeNames has the names of the codes in the order of their values.
var codeNames = [...]string{
	"ok", "invalid", "range", "not-found", "exists", "full", "state", "syntax", "format", "clash", "cracked",
}

// CodeName returns the name of a code, and the empty string for any other number.
func CodeName(code int64) string {
	if code < 0 || code >= int64(len(codeNames)) {
		return ""
	}
	return codeNames[code]
}

// IsName reports whether s is a name: small letters, digits and hyphens, a letter first.
func IsName(s string) bool {
	if len(s) < 1 || len(s) > MaxName {
		return false
	}
	for k, r := range s {
		if !isSmallLetter(r) && (k == 0 || !isDigit(r) && r != '-') {
			return false
		}
	}
	return true
}

func isSmallLetter(r rune) bool { return 'a' <= r && r <= 'z' }

func isDigit(r rune) bool { return '0' <= r && r <= '9' }

// Decimal returns the decimal form of a number.
func Decimal(n int64) string { return strconv.FormatInt(n, 10) }

// ReadDecimal returns the number of at most maxDigits digits whose decimal form is s.
func ReadDecimal(s string) (int64, bool) {
	if len(strings.TrimPrefix(s, "-")) > maxDigits {
		return 0, false
	}
	n, err := strconv.ParseInt(s, 10, 64)
	// ParseInt also takes a plus sign, leading zeros and a minus sign before 0: these are no decimal forms.
	if err != nil || Decimal(n) != s {
		return 0, false
	}
	return n, true
}

// SplitWords returns the longest parts of a text without blanks.
func SplitWords(s string) []string { return strings.FieldsFunc(s, isBlank) }

// isBlank leaves out tabs, newlines and other white space: these belong to words.
func isBlank(r rune) bool { return r == ' ' }

// isWithin reports whether n is low to high.
func isWithin(n, low, high int64) bool { return low <= n && n <= high }

// areWithin reports whether all numbers are low to high.
func areWithin(numbers []int64, low, high int64) bool {
	for _, n := range numbers {
		if !isWithin(n, low, high) {
			return false
		}
	}
	return true
}

// joinNumbers returns the decimal forms of numbers with a separator between them.
func joinNumbers(separator string, numbers ...int64) string {
	var text strings.Builder
	for k, n := range numbers {
		if k > 0 {
			text.WriteString(separator)
		}
		text.WriteString(Decimal(n))
	}
	return text.String()
}

// readNumbers returns the numbers for which joinNumbers returns s, and whether there are such numbers.
func readNumbers(s, separator string) ([]int64, bool) {
	var numbers []int64
	for _, part := range strings.Split(s, separator) {
		n, ok := ReadDecimal(part)
		if !ok {
			return nil, false
		}
		numbers = append(numbers, n)
	}
	return numbers, true
}

// readLettered returns the number and the letter behind it of which a word consists, and whether it does; the letter is one of some letters.
func readLettered(word, letters string) (int64, string, bool) {
	number := strings.TrimRight(word, letters)
	n, ok := ReadDecimal(number)
	if !ok || len(word) != len(number)+1 {
		return 0, "", false
	}
	return n, word[len(number):], true
}
