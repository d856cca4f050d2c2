package runes

import (
	"math"
	"regexp"
	"slices"
	"strconv"
	"strings"
	"testing"
	"unicode/utf8"
)

// tricky: bytes whose texts of up to five have each kind of rune, whole, cut and turned, and each kind of sign.
const tricky = "a\x1f\x7f \t-09\xe2\x82\xac\xef\xbf\xbd\xed\xc0\xff"

// eachText asks f for all texts of up to n bytes of tricky.
func eachText(n int, f func(s string)) {
	var grow func(b []byte)
	grow = func(b []byte) {
		f(string(b))
		if len(b) == n {
			return
		}
		for i := range len(tricky) {
			grow(append(b, tricky[i]))
		}
	}
	grow(make([]byte, 0, n))
}

func TestValid(t *testing.T) {
	for s, want := range map[string]bool{
		"":                 true,
		"game":             true,
		"\x00\x7f":         true,
		"é€😀":              true,
		"\uFFFD":           true,
		"a\uFFFD\uFFFDb":   true,
		"\U0010FFFF":       true,
		"\xff":             false,
		"\x80":             false,
		"a\xc3":            false,
		"\xe2\x82":         false,
		"\xef\xbf":         false,
		"\xef\xbf\xef\xbf": false,
		"\uFFFD\xbd":       false,
		"\xbd\uFFFD":       false,
		"\xc0\x80":         false,
		"\xed\xa0\x80":     false,
		"\xf4\x90\x80\x80": false,
	} {
		if got := Valid(s); got != want {
			t.Errorf("P1.1: Valid(%q): %v", s, got)
		}
	}
}

func TestCount(t *testing.T) {
	for s, want := range map[string]int{
		"":                        0,
		"game":                    4,
		"é€😀":                     3,
		"\uFFFD":                  1,
		"\xff\xfe":                2,
		"\xe2\x82":                2,
		"a\xed\xa0\x80":           4,
		"e\u0301":                 2,
		strings.Repeat("é", 5000): 5000,
	} {
		if got := Count(s); got != want {
			t.Errorf("P1.1: Count(%q): %d", s, got)
		}
	}
}

func TestAt(t *testing.T) {
	const s = "aé\xff😀\uFFFD\x00"
	for n, want := range map[int]rune{
		0: 'a', 1: 'é', 2: '\uFFFD', 3: '😀', 4: '\uFFFD', 5: 0,
		6: 0, -1: 0, math.MaxInt: 0, math.MinInt: 0, 1 << 32: 0,
	} {
		if got := At(s, n); got != want {
			t.Errorf("P1.1: At(%q, %d): %x", s, n, got)
		}
	}
	if got := At("", 0); got != 0 {
		t.Errorf("P1.1: At of an empty text: %x", got)
	}
}

func TestTitle(t *testing.T) {
	for s, want := range map[string]bool{
		"":                               false,
		"a":                              true,
		" ":                              true,
		" # ":                            true,
		"~":                              true,
		"\u0080\u009f":                   true,
		"\uFFFD":                         true,
		strings.Repeat("e", 20):          true,
		strings.Repeat("e", 21):          false,
		strings.Repeat("😀", 20):          true,
		strings.Repeat("😀", 21):          false,
		strings.Repeat("e", 19) + "\xff": false,
		"\xff":                           false,
		"a\xe2\x82":                      false,
		"\x00":                           false,
		"a\tb":                           false,
		"a\n":                            false,
		"\x1f":                           false,
		"\x7f":                           false,
		"a\x7fb":                         false,
		strings.Repeat("\u00e9", 1<<16):  false,
	} {
		if got := Title(s); got != want {
			t.Errorf("P1.1: Title(%q): %v", s, got)
		}
	}
}

func TestWords(t *testing.T) {
	for s, want := range map[string][]string{
		"":               nil,
		" ":              nil,
		"\t \t":          nil,
		"a":              {"a"},
		"a b":            {"a", "b"},
		"a\tb":           {"a", "b"},
		" \ta \t bc\t ":  {"a", "bc"},
		"b a b":          {"b", "a", "b"},
		"é 😀":            {"é", "😀"},
		"a\u00a0b\u2003": {"a\u00a0b\u2003"},
		"a\nb\r c\v\f":   {"a\nb\r", "c\v\f"},
		"\xff \xe2\x82 ": {"\xff", "\xe2\x82"},
		"a\x00 b":        {"a\x00", "b"},
	} {
		if got := Words(s); !slices.Equal(got, want) {
			t.Errorf("P1.1: Words(%q): %q", s, got)
		}
	}
}

func TestWordsAreNew(t *testing.T) {
	const s = "add 1 2"
	first, second := Words(s), Words(s)
	first[0] = "sub"
	_ = append(first, "3")
	if want := []string{"add", "1", "2"}; !slices.Equal(second, want) || !slices.Equal(Words(s), want) {
		t.Errorf("P0.3: Words(%q): %q, %q", s, second, Words(s))
	}
}

func TestNumber(t *testing.T) {
	for s, want := range map[string]int{
		"0":           0,
		"9":           9,
		"-1":          -1,
		"-9":          -9,
		"10":          10,
		"-100":        -100,
		"1203":        1203,
		"2147483646":  math.MaxInt32 - 1,
		"2147483647":  math.MaxInt32,
		"-2147483647": math.MinInt32 + 1,
		"-2147483648": math.MinInt32,
	} {
		if got, ok := Number(s); got != want || !ok {
			t.Errorf("P1.1: Number(%q): %d, %v", s, got, ok)
		}
	}
}

func TestNoNumber(t *testing.T) {
	for _, s := range []string{
		"", "-", "--1", "1-", "+1", "-0", "00", "01", "-01", "-00", "000",
		"2147483648", "-2147483649", "3000000000", "4294967296", "4294967297",
		"9223372036854775808", "-9223372036854775808", "18446744073709551617",
		strings.Repeat("9", 1000), "-" + strings.Repeat("1", 1000), strings.Repeat("0", 1000),
		" 1", "1 ", "1\t", "1\n", "1 2", "1_0", "1,0", "1.0", "1e3", "0x1", "0b1", "a", "1a", "/", ":",
		"٣", "１", "−1", "1\xff", "\xff", "1\x00",
	} {
		if got, ok := Number(s); got != 0 || ok {
			t.Errorf("P1.1: Number(%q): %d, %v", s, got, ok)
		}
	}
}

// The library, which the package does without, says the same of all short texts.
func TestShortTexts(t *testing.T) {
	control := func(r rune) bool { return r < 32 || r == 127 }
	between := func(r rune) bool { return r == 32 || r == 9 }
	eachText(4, func(s string) {
		rs := []rune(s)
		if Valid(s) != utf8.ValidString(s) || Count(s) != len(rs) {
			t.Fatalf("P1.1: %q: %v, %d", s, Valid(s), Count(s))
		}
		for n := -1; n <= len(rs); n++ {
			want := rune(0)
			if n >= 0 && n < len(rs) {
				want = rs[n]
			}
			if At(s, n) != want {
				t.Fatalf("P1.1: At(%q, %d): %x", s, n, At(s, n))
			}
		}
		if Title(s) != (s != "" && utf8.ValidString(s) && !strings.ContainsFunc(s, control)) {
			t.Fatalf("P1.1: Title(%q): %v", s, Title(s))
		}
		if !slices.Equal(Words(s), strings.FieldsFunc(s, between)) {
			t.Fatalf("P1.1: Words(%q): %q", s, Words(s))
		}
	})
}

func TestShortNumbers(t *testing.T) {
	form := regexp.MustCompile(`^(0|-?[1-9][0-9]*)$`)
	eachText(4, func(s string) {
		want := 0
		if form.MatchString(s) {
			want, _ = strconv.Atoi(s)
		}
		if got, ok := Number(s); got != want || ok != form.MatchString(s) {
			t.Fatalf("P1.1: Number(%q): %d, %v", s, got, ok)
		}
	})
}
