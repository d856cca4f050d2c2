package crc

import (
	"bytes"
	"hash/crc32"
	"math"
	"strings"
	"testing"
)

// byBits divides bit by bit, as the polynomial itself says.
func byBits(sum uint32, b []byte) uint32 {
	const turned = 0xedb88320
	rest := ^sum
	for _, c := range b {
		rest ^= uint32(c)
		for range 8 {
			low := rest & 1
			rest >>= 1
			if low == 1 {
				rest ^= turned
			}
		}
	}
	return ^rest
}

// library: what Go's hash/crc32, which the package does without, says.
func library(sum uint32, b []byte) uint32 {
	return crc32.Update(sum, crc32.IEEETable, b)
}

// noise is n bytes without a pattern that is short, always the same.
func noise(n int) []byte {
	b, x := make([]byte, n), uint32(1)
	for i := range b {
		x = 1664525*x + 1013904223
		b[i] = byte(x >> 24)
	}
	return b
}

// someSums: those at the ends, and those with one bit.
func someSums() []uint32 {
	sums := []uint32{0, math.MaxUint32, math.MaxUint32 - 1, 0xcbf43926, 0xedb88320, 0x04c11db7, 0x7fffffff}
	for k := range 32 {
		sums = append(sums, 1<<k, ^(uint32(1) << k))
	}
	return sums
}

func TestSum(t *testing.T) {
	for s, want := range map[string]uint32{
		"":                         0x00000000,
		"\x00":                     0xd202ef8d,
		"\xff":                     0xff000000,
		"a":                        0xe8b7be43,
		"abc":                      0x352441c2,
		"123456789":                0xcbf43926,
		"\x00\x00\x00\x00":         0x2144df1c,
		"\xff\xff\xff\xff":         0xffffffff,
		strings.Repeat("\x00", 32): 0x190a55ad,
		strings.Repeat("\xff", 32): 0xff6cab0b,
		"The quick brown fox jumps over the lazy dog": 0x414fa339,
	} {
		if got := Sum([]byte(s)); got != want {
			t.Errorf("P3.1: Sum(%q): %08x", s, got)
		}
	}
	if got := Sum(nil); got != 0 {
		t.Errorf("P0.4: Sum of nil: %08x", got)
	}
}

func TestSumOfAllShortLists(t *testing.T) {
	for x := range 256 {
		one := []byte{byte(x)}
		if got := Sum(one); got != library(0, one) || got != byBits(0, one) {
			t.Fatalf("P3.1: Sum(%x): %08x", one, got)
		}
		for y := range 256 {
			two := []byte{byte(x), byte(y)}
			if got := Sum(two); got != library(0, two) || got != byBits(0, two) {
				t.Fatalf("P3.1: Sum(%x): %08x", two, got)
			}
		}
	}
}

func TestSumOfEachLength(t *testing.T) {
	b := noise(1 << 20)
	for n := 0; n <= len(b); n += 1 + n/50 {
		if got := Sum(b[:n]); got != library(0, b[:n]) || got != byBits(0, b[:n]) {
			t.Fatalf("P3.1: Sum of %d bytes: %08x", n, got)
		}
	}
	if got := Sum(b); got != library(0, b) {
		t.Errorf("P3.1: Sum of %d bytes: %08x", len(b), got)
	}
}

// A sum hangs on each bit, and on the order.
func TestSumOfSpoiltLists(t *testing.T) {
	b := noise(140)
	want := Sum(b)
	for i := range b {
		for k := range 8 {
			spoilt := bytes.Clone(b)
			spoilt[i] ^= 1 << k
			if got := Sum(spoilt); got == want || got != library(0, spoilt) {
				t.Errorf("P3.1: bit %d of byte %d: %08x", k, i, got)
			}
		}
		if i > 0 && b[i] != b[i-1] {
			turned := bytes.Clone(b)
			turned[i], turned[i-1] = turned[i-1], turned[i]
			if got := Sum(turned); got == want || got != library(0, turned) {
				t.Errorf("P3.1: bytes %d and %d turned: %08x", i-1, i, got)
			}
		}
	}
}

func TestMoreOfEachSum(t *testing.T) {
	for _, sum := range someSums() {
		if got := More(sum, nil); got != sum {
			t.Errorf("P3.1: More(%08x, nil): %08x", sum, got)
		}
		if got := More(sum, []byte{}); got != sum {
			t.Errorf("P0.4: More(%08x, an empty list): %08x", sum, got)
		}
		for x := range 256 {
			one := []byte{byte(x)}
			if got := More(sum, one); got != library(sum, one) || got != byBits(sum, one) {
				t.Fatalf("P3.1: More(%08x, %x): %08x", sum, one, got)
			}
		}
		for _, s := range []string{"abc", "123456789", strings.Repeat("\x00", 70), strings.Repeat("\xff", 70)} {
			if got := More(sum, []byte(s)); got != library(sum, []byte(s)) {
				t.Errorf("P3.1: More(%08x, %q): %08x", sum, s, got)
			}
		}
	}
}

func TestMoreBehindEachPart(t *testing.T) {
	b := noise(300)
	want := library(0, b)
	for i := range len(b) + 1 {
		first := Sum(b[:i])
		if got := More(first, b[i:]); got != want {
			t.Errorf("P3.1: More behind %d bytes: %08x", i, got)
		}
		for j := i; j <= len(b); j += 7 {
			if got := More(More(first, b[i:j]), b[j:]); got != want {
				t.Errorf("P3.1: More behind %d and %d bytes: %08x", i, j, got)
			}
		}
	}
	sum := Sum(nil)
	for i := range b {
		sum = More(sum, b[i:i+1])
	}
	if sum != want {
		t.Errorf("P3.1: More byte by byte: %08x", sum)
	}
}

func TestNothingIsChangedOrKept(t *testing.T) {
	all := noise(64)
	want := bytes.Clone(all)
	b := all[8:40]
	first, more := Sum(b), More(7, b)
	if !bytes.Equal(all, want) {
		t.Errorf("P0.3: a list was written into: %x", all)
	}
	clear(b)
	if got := Sum(b); got != library(0, make([]byte, len(b))) {
		t.Errorf("P0.3: an old list was summed: %08x", got)
	}
	copy(all, want)
	if Sum(b) != first || More(7, b) != more {
		t.Errorf("P0.5: of one list, another sum: %08x, %08x", Sum(b), More(7, b))
	}
}
