package state

import (
	"bytes"
	"encoding/binary"
	"hash/crc32"
	"math"
	"slices"
	"strings"
	"testing"

	"quintain/api"
)

const (
	low  = math.MinInt32
	high = math.MaxInt32
)

// cells: the numbers at the ends of 32 bits and of each of their bytes, and some whose four bytes are all different.
var cells = []int32{
	0, 1, -1, 2, -2, 127, 128, 255, 256, -128, -129, -255, -256, -257, 32767, 32768, 65535, 65536, -32768, -32769, -65536, -65537,
	1<<24 - 1, 1 << 24, -1 << 24, -1<<24 - 1, 0x01020304, -0x01020304, 0x7f80ff00, low, low + 1, high - 1, high,
}

// pagesBeyond: the nearest numbers that are no page's, and those that come to a page when they wrap or lose their upper bits.
var pagesBeyond = []int{
	-1, -2, -3, -4, -5, -8, -32, -256, low, low - 1, -1 << 32, -1 << 61, math.MinInt, math.MinInt + 1,
	4, 5, 7, 8, 16, 24, 31, 32, 33, 255, 256, 257, 1 << 16, high, 1 << 31, 1 << 32, 1<<32 + 1, 1<<32 + 3,
	1 << 61, 1<<61 + 1, 1<<61 + 3, 1 << 62, 3 << 61, math.MaxInt - 1, math.MaxInt,
}

// noise is a game without a pattern that is short, always the same of one seed.
func noise(seed uint32) State {
	var s State
	for i := range s {
		seed = 1664525*seed + 1013904223
		s[i] = int32(seed ^ seed>>15)
	}
	return s
}

// rising is the game of the cells 1 to 32: each is told from the others.
func rising() State {
	var s State
	for i := range s {
		s[i] = int32(i + 1)
	}
	return s
}

// all is a game of one number.
func all(v int32) State {
	var s State
	for i := range s {
		s[i] = v
	}
	return s
}

// games: of one number each, with one number in one cell, and without a pattern.
func games() []State {
	gs := []State{{}, rising()}
	for _, v := range cells {
		gs = append(gs, all(v))
	}
	for i := range api.Cells {
		var one, lowest State
		one[i], lowest[i] = cells[i+1], low
		gs = append(gs, one, lowest)
	}
	for seed := range uint32(100) {
		gs = append(gs, noise(seed))
	}
	return gs
}

// library: the game's bytes, as the library writes them.
func library(s State) []byte {
	var b []byte
	for _, v := range s {
		b = binary.BigEndian.AppendUint32(b, uint32(v))
	}
	return b
}

func TestKnownBytes(t *testing.T) {
	for want, s := range map[string]State{
		strings.Repeat("\x00", 128):                                    {},
		strings.Repeat("\xff", 128):                                    all(-1),
		strings.Repeat("\x80\x00\x00\x00", 32):                         all(low),
		strings.Repeat("\x7f\xff\xff\xff", 32):                         all(high),
		strings.Repeat("\x01\x02\x03\x04", 32):                         all(0x01020304),
		"\x01\x02\x03\x04" + strings.Repeat("\x00", 124):               {0: 0x01020304},
		strings.Repeat("\x00", 124) + "\xff\xff\xff\xfe":               {31: -2},
		"\x00\x00\x00\x07\xff\xff\xff\x9c" + string(make([]byte, 120)): {7, -100},
	} {
		if got := s.Encode(); string(got) != want {
			t.Errorf("P8.1: Encode of %v: %x", s, got)
		}
		if got, err := Decode([]byte(want)); got != s || err != api.OK {
			t.Errorf("P8.1: Decode of %x: %v, %d", want, got, err)
		}
	}
}

func TestEncodeAndDecode(t *testing.T) {
	for _, s := range games() {
		b := s.Encode()
		if len(b) != 128 || !bytes.Equal(b, library(s)) {
			t.Errorf("P8.1: Encode of %v: %x", s, b)
		}
		if got, err := Decode(library(s)); got != s || err != api.OK {
			t.Errorf("P8.1: Decode of %x: %v, %d", b, got, err)
		}
	}
}

func TestEachNumberInEachCell(t *testing.T) {
	for i := range api.Cells {
		for _, v := range cells {
			s := noise(1)
			s[i] = v
			if b := s.Encode(); !bytes.Equal(b, library(s)) {
				t.Errorf("P8.1: %d in the cell %d: %x", v, i, b)
			}
			if got, err := Decode(library(s)); got != s || err != api.OK {
				t.Errorf("P8.1: %d in the cell %d: %v, %d", v, i, got, err)
			}
		}
	}
}

// Any 128 bytes are a game's, and of each game there is one list alone.
func TestAnyBytes(t *testing.T) {
	for seed := range uint32(50) {
		b := library(noise(seed))
		for i := range b {
			spoilt := bytes.Clone(b)
			spoilt[i] ^= 1 << (i % 8)
			s, err := Decode(spoilt)
			if err != api.OK || s == noise(seed) || !bytes.Equal(s.Encode(), spoilt) {
				t.Errorf("P8.1: Decode of %x: %v, %d", spoilt, s, err)
			}
		}
	}
}

func TestOtherLengths(t *testing.T) {
	for _, fill := range []byte{0, 1, 0xff} {
		long := bytes.Repeat([]byte{fill}, 1<<16+128)
		for n := range 600 {
			refused(t, long[:n])
		}
		for _, n := range []int{1024, 4096, 1<<16 - 128, 1 << 16, 1<<16 + 127, 1<<16 + 128} {
			refused(t, long[:n])
		}
	}
	refused(t, nil)
	refused(t, []byte{})
	// Its spare room is no part of a list.
	refused(t, rising().Encode()[:127])
	refused(t, rising().Encode()[:0])
}

func refused(t *testing.T, b []byte) {
	t.Helper()
	if len(b) == 128 {
		return
	}
	if s, err := Decode(b); s != (State{}) || err != api.ErrForm {
		t.Errorf("P8.1: Decode of %d bytes: %v, %d", len(b), s, err)
	}
}

func TestSum(t *testing.T) {
	for want, s := range map[uint32]State{
		0xc2a8fa9d: {},
		0x652d544c: all(-1),
		0xd57f5030: all(low),
		0xbc1fc30a: rising(),
		0xf43cd188: {0: 7},
	} {
		if got := s.Sum(); got != want {
			t.Errorf("P8.1: Sum of %v: %08x", s, got)
		}
	}
	for _, s := range games() {
		if got := s.Sum(); got != crc32.ChecksumIEEE(library(s)) {
			t.Errorf("P8.1: Sum of %v: %08x", s, got)
		}
	}
}

// A sum hangs on each cell, and on their order.
func TestSumOfOtherGames(t *testing.T) {
	s := rising()
	for i := range s {
		for bit := range 32 {
			other := s
			other[i] ^= 1 << bit
			if other.Sum() == s.Sum() {
				t.Errorf("P8.1: Sum: bit %d of the cell %d", bit, i)
			}
		}
		turned := s
		turned[i], turned[(i+1)%len(s)] = s[(i+1)%len(s)], s[i]
		if turned.Sum() == s.Sum() {
			t.Errorf("P8.1: Sum: the cell %d and the next one turned", i)
		}
	}
}

func TestPage(t *testing.T) {
	for i, want := range [4][8]int32{
		{1, 2, 3, 4, 5, 6, 7, 8},
		{9, 10, 11, 12, 13, 14, 15, 16},
		{17, 18, 19, 20, 21, 22, 23, 24},
		{25, 26, 27, 28, 29, 30, 31, 32},
	} {
		if got := rising().Page(i); got != want {
			t.Errorf("P8.1: Page(%d): %v", i, got)
		}
	}
	for _, s := range games() {
		for i := range 4 {
			if got := s.Page(i); !slices.Equal(got[:], s[8*i:8*i+8]) {
				t.Errorf("P8.1: Page(%d) of %v: %v", i, s, got)
			}
		}
	}
}

func TestPagesBeyond(t *testing.T) {
	for _, i := range pagesBeyond {
		for _, s := range []State{rising(), all(-1), all(low), noise(3)} {
			if got := s.Page(i); got != ([8]int32{}) {
				t.Errorf("P8.1: Page(%d) of %v: %v", i, s, got)
			}
			for _, p := range [][8]int32{{}, {9, 9, 9, 9, 9, 9, 9, 9}, {low, high}} {
				if got := s.With(i, p); got != s {
					t.Errorf("P8.1: With(%d, %v) of %v: %v", i, p, s, got)
				}
			}
		}
	}
}

// written is what With is to answer, cell by cell.
func written(s State, i int, p [8]int32) State {
	for k, v := range p {
		s[8*i+k] = v
	}
	return s
}

func TestWith(t *testing.T) {
	for _, s := range games() {
		for i := range 4 {
			for _, p := range [][8]int32{{}, {1, -2, 3, -4, 5, -6, 7, -8}, {low, high, low, high, 0, -1, high, low}, s.Page(i), s.Page(3 - i)} {
				got := s.With(i, p)
				if got != written(s, i, p) || got.Page(i) != p {
					t.Errorf("P8.1: With(%d, %v) of %v: %v", i, p, s, got)
				}
				if back := got.With(i, s.Page(i)); back != s {
					t.Errorf("P8.1: With(%d) and back of %v: %v", i, s, back)
				}
			}
		}
	}
}

func TestAGameOfItsPages(t *testing.T) {
	for _, s := range games() {
		var made State
		for i := range 4 {
			made = made.With(i, s.Page(i))
		}
		if made != s || made.Sum() != s.Sum() {
			t.Errorf("P8.1: of the pages of %v: %v", s, made)
		}
	}
}

// Nothing that is asked of a game changes it, nor the page that is handed in.
func TestTheGameStays(t *testing.T) {
	for _, old := range games() {
		s, p := old, [8]int32{1, 2, 3, 4, 5, 6, 7, 8}
		g := &s
		for i := -1; i <= 4; i++ {
			other, page := g.With(i, p), g.Page(i)
			for k := range other {
				other[k]++
			}
			for k := range page {
				page[k]++
			}
		}
		b := g.Encode()
		clear(b[:cap(b)])
		g.Sum()
		if s != old || p != ([8]int32{1, 2, 3, 4, 5, 6, 7, 8}) {
			t.Errorf("P0.3: of %v came %v, and the page %v", old, s, p)
		}
	}
}

func TestBytesAreNew(t *testing.T) {
	s := rising()
	first, second := s.Encode(), s.Encode()
	clear(first[:cap(first)])
	if !bytes.Equal(second, library(s)) || !bytes.Equal(s.Encode(), library(s)) {
		t.Errorf("P0.3: Encode: %x, %x", second, s.Encode())
	}
}

func TestDecodeChangesAndKeepsNothing(t *testing.T) {
	long := bytes.Repeat([]byte{9}, 160)
	b := long[16:144]
	copy(b, library(noise(5)))
	old := bytes.Clone(long)
	s, err := Decode(b)
	if s != noise(5) || err != api.OK {
		t.Errorf("P8.1: Decode of %x: %v, %d", b, s, err)
	}
	refused(t, long)
	if !bytes.Equal(long, old) {
		t.Errorf("P0.3: a list was written into: %x", long)
	}
	clear(b)
	if s != noise(5) {
		t.Errorf("P0.3: a game hangs on the list that it was read of: %v", s)
	}
	if again, err := Decode(b); again != (State{}) || err != api.OK {
		t.Errorf("P0.3: an old list was read: %v, %d", again, err)
	}
}
