// Package runes: titles: see doc/01-runes.md.
package runes

import (
	"math"
	"strings"

	"quintain/api"
)

// Valid: see the chapter.
func Valid(s string) bool {
	for i, r := range s {
		// Range gives U+FFFD for a bad byte and for a U+FFFD that stands there: only the bytes tell which.
		if r == '\uFFFD' && !strings.HasPrefix(s[i:], "\uFFFD") {
			return false
		}
	}
	return true
}

// Count: see the chapter.
func Count(s string) int {
	n := 0
	for range s {
		n++
	}
	return n
}

// At: see the chapter.
func At(s string, n int) rune {
	k := 0
	for _, r := range s {
		if k == n {
			return r
		}
		k++
	}
	return 0
}

// Title: see the chapter.
func Title(s string) bool {
	n := Count(s)
	return n >= 1 && n <= api.MaxTitle && Valid(s) && plain(s)
}

// plain lets the signs from 128 to 159 pass: the chapter rules out ASCII's alone.
func plain(s string) bool {
	for _, r := range s {
		if r < ' ' || r == '\x7f' {
			return false
		}
	}
	return true
}

// Words: see the chapter.
func Words(s string) []string {
	var words []string
	start := 0
	for i, r := range s {
		if r != ' ' && r != '\t' {
			continue
		}
		if start < i {
			words = append(words, s[start:i])
		}
		start = i + 1
	}
	if start < len(s) {
		words = append(words, s[start:])
	}
	return words
}

// Number: see the chapter.
func Number(s string) (int, bool) {
	n, sign, digits := 0, 1, 0
	for i, r := range s {
		if i == 0 && r == '-' {
			sign = -1
			continue
		}
		nought := digits > 0 && n == 0
		if r < '0' || r > '9' || nought {
			return 0, false
		}
		n = 10*n + sign*int(r-'0')
		digits++
		// Told at each digit, so that no text is long enough to wrap.
		if n < math.MinInt32 || n > math.MaxInt32 {
			return 0, false
		}
	}
	if digits == 0 || sign < 0 && n == 0 {
		return 0, false
	}
	return n, true
}
