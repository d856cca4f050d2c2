package word

import (
	"bytes"
	"encoding/binary"
	"math"
	"math/big"
	"testing"
)

const (
	low  = math.MinInt32
	high = math.MaxInt32
)

// someWords: the numbers beside each power of two, of both signs, those at the ends, and a few between.
func someWords() []int32 {
	words := []int32{0, low, low + 1, high - 1, high, 7, -7, 10, 1000, -1000, 123456789, -987654321}
	for k := range 31 {
		p := int32(1) << k
		words = append(words, p-1, p, p+1, -p-1, -p, -p+1)
	}
	return words
}

// someDivisors: of Mod, up to the ends of an int.
func someDivisors() []int {
	ns := []int{1, 3, 7, 10, 31, 33, 1000, high, math.MaxInt, math.MaxInt - 1}
	for k := range 63 {
		p := 1 << k
		ns = append(ns, p, p+1)
	}
	return ns
}

// round is n modulo 2^32, worked out by the library's great numbers.
func round(n *big.Int) int32 {
	rest := new(big.Int).Mod(n, big.NewInt(1<<32))
	return int32(uint32(rest.Uint64()))
}

func great(a int32) *big.Int { return big.NewInt(int64(a)) }

func TestKnownAnswers(t *testing.T) {
	for name, x := range map[string]struct{ got, want int32 }{
		"high + 1":          {Add(high, 1), low},
		"low + -1":          {Add(low, -1), high},
		"low + low":         {Add(low, low), 0},
		"high + high":       {Add(high, high), -2},
		"2 + 3":             {Add(2, 3), 5},
		"low - 1":           {Sub(low, 1), high},
		"high - -1":         {Sub(high, -1), low},
		"0 - low":           {Sub(0, low), low},
		"2 - 3":             {Sub(2, 3), -1},
		"high times high":   {Mul(high, high), 1},
		"low times -1":      {Mul(low, -1), low},
		"low times low":     {Mul(low, low), 0},
		"65536 times 32768": {Mul(65536, 32768), low},
		"46341 times 46341": {Mul(46341, 46341), -2147479015},
		"-3 times 5":        {Mul(-3, 5), -15},
	} {
		if x.got != x.want {
			t.Errorf("P4.1: %s: %d, not %d", name, x.got, x.want)
		}
	}
}

func TestReckoning(t *testing.T) {
	words := someWords()
	for _, a := range words {
		for _, b := range words {
			if got, want := Add(a, b), round(new(big.Int).Add(great(a), great(b))); got != want {
				t.Errorf("P4.1: Add(%d, %d): %d, not %d", a, b, got, want)
			}
			if got, want := Sub(a, b), round(new(big.Int).Sub(great(a), great(b))); got != want {
				t.Errorf("P4.1: Sub(%d, %d): %d, not %d", a, b, got, want)
			}
			if got, want := Mul(a, b), round(new(big.Int).Mul(great(a), great(b))); got != want {
				t.Errorf("P4.1: Mul(%d, %d): %d, not %d", a, b, got, want)
			}
			if b == 0 {
				continue
			}
			if got, want := Div(a, b), round(new(big.Int).Quo(great(a), great(b))); got != want {
				t.Errorf("P4.1: Div(%d, %d): %d, not %d", a, b, got, want)
			}
		}
	}
}

func TestDiv(t *testing.T) {
	for _, x := range []struct{ a, b, want int32 }{
		{7, 2, 3}, {-7, 2, -3}, {7, -2, -3}, {-7, -2, 3},
		{1, 2, 0}, {-1, 2, 0}, {1, -2, 0}, {0, 5, 0}, {0, -5, 0},
		{low, -1, low}, {low, 1, low}, {low, low, 1}, {low, 2, -1 << 30}, {low, high, -1},
		{high, -1, -high}, {high, low, 0}, {-1, low, 0},
	} {
		if got := Div(x.a, x.b); got != x.want {
			t.Errorf("P4.1: Div(%d, %d): %d, not %d", x.a, x.b, got, x.want)
		}
	}
	for _, a := range someWords() {
		if got := Div(a, 0); got != 0 {
			t.Errorf("P4.1: Div(%d, 0): %d", a, got)
		}
	}
}

func TestMod(t *testing.T) {
	for _, x := range []struct {
		a    int32
		n    int
		want int
	}{
		{7, 4, 3}, {8, 4, 0}, {0, 4, 0}, {-1, 4, 3}, {-4, 4, 0}, {-5, 4, 3},
		{-1, 32, 31}, {-32, 32, 0}, {low, 32, 0}, {high, 32, 31}, {low, 7, 5},
		{5, 1, 0}, {-5, 1, 0}, {low, 1, 0},
		{high, high, 0}, {low, high, high - 1}, {-1, high, high - 1},
		{low, 1 << 31, 0}, {-1, 1 << 31, high}, {high, 1 << 31, high},
		{-1, 1 << 32, 1<<32 - 1}, {low, 1 << 32, 1 << 31}, {5, 1 << 32, 5},
		{5, 1<<32 + 2, 5}, {-5, 1<<32 + 2, 1<<32 - 3},
		{0, math.MaxInt, 0}, {high, math.MaxInt, high}, {-1, math.MaxInt, math.MaxInt - 1}, {low, math.MaxInt, math.MaxInt + low},
	} {
		if got := Mod(x.a, x.n); got != x.want {
			t.Errorf("P4.1: Mod(%d, %d): %d, not %d", x.a, x.n, got, x.want)
		}
	}
}

func TestModOfEachDivisor(t *testing.T) {
	for _, a := range someWords() {
		for _, n := range someDivisors() {
			want := int(new(big.Int).Mod(great(a), big.NewInt(int64(n))).Int64())
			if got := Mod(a, n); got != want {
				t.Errorf("P4.1: Mod(%d, %d): %d, not %d", a, n, got, want)
			}
		}
		for _, n := range []int{0, -1, -2, -32, low, -1 << 32, 1 - 1<<32, math.MinInt, math.MinInt + 1} {
			if got := Mod(a, n); got != 0 {
				t.Errorf("P4.1: Mod(%d, %d): %d", a, n, got)
			}
		}
	}
}

func TestPutAndGet(t *testing.T) {
	for a, want := range map[int32]string{
		0:          "\x00\x00\x00\x00",
		1:          "\x00\x00\x00\x01",
		-1:         "\xff\xff\xff\xff",
		-2:         "\xff\xff\xff\xfe",
		0x01020304: "\x01\x02\x03\x04",
		0x7f80ff00: "\x7f\x80\xff\x00",
		low:        "\x80\x00\x00\x00",
		high:       "\x7f\xff\xff\xff",
	} {
		if got := Put(a); string(got) != want {
			t.Errorf("P4.1: Put(%d): %x", a, got)
		}
		if got := Get([]byte(want)); got != a {
			t.Errorf("P4.1: Get(%x): %d", want, got)
		}
	}
	for _, a := range someWords() {
		b := Put(a)
		if !bytes.Equal(b, binary.BigEndian.AppendUint32(nil, uint32(a))) {
			t.Errorf("P4.1: Put(%d): %x", a, b)
		}
		for _, behind := range []string{"", "\x00", "\xff", "\x80\x01\x02\x03\x04"} {
			if got := Get(append(bytes.Clone(b), behind...)); got != a {
				t.Errorf("P4.1: Get of %x and %x: %d, not %d", b, behind, got, a)
			}
		}
	}
}

func TestGetOfShortLists(t *testing.T) {
	for _, s := range []string{"", "\x01", "\xff", "\x01\x02", "\x01\x02\x03", "\xff\xff\xff", "\x00\x00\x00"} {
		if got := Get([]byte(s)); got != 0 {
			t.Errorf("P4.1: Get(%x): %d", s, got)
		}
	}
	// Its spare room is no part of a list.
	if got := Get([]byte{1, 2, 3, 4}[:3]); got != 0 {
		t.Errorf("P4.1: Get of three bytes with room for a fourth: %d", got)
	}
	if got := Get(nil); got != 0 {
		t.Errorf("P0.4: Get of nil: %d", got)
	}
}

func TestAnswersAreNew(t *testing.T) {
	first, second := Put(0x01020304), Put(0x01020304)
	clear(first[:cap(first)])
	if string(second) != "\x01\x02\x03\x04" || string(Put(0x01020304)) != "\x01\x02\x03\x04" {
		t.Errorf("P0.3: Put: %x, %x", second, Put(0x01020304))
	}
}

func TestGetChangesAndKeepsNothing(t *testing.T) {
	all := []byte{9, 1, 2, 3, 4, 5, 9, 9}
	b := all[1:6]
	if got := Get(b); got != 0x01020304 {
		t.Errorf("P4.1: Get(%x): %x", b, got)
	}
	if !bytes.Equal(all, []byte{9, 1, 2, 3, 4, 5, 9, 9}) {
		t.Errorf("P0.3: a list was written into: %x", all)
	}
	clear(b)
	if got := Get(b); got != 0 {
		t.Errorf("P0.3: an old list was read: %x", got)
	}
}
