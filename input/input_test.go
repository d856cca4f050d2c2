package input

import (
	"bytes"
	"math"
	"strings"
	"testing"

	"quintain/api"
)

// above: numbers above each Len, those too that come to a frame's when they lose their upper bits.
var above = []int{
	1001, 1002, 1008, 1023, 1024, 1<<16 - 1, 1 << 16, 1<<16 + 5, math.MaxInt32, 1 << 31, 1 << 32, 1<<32 + 1, 1<<32 + 999, 1 << 40, 1<<62 + 3, math.MaxInt - 1000, math.MaxInt - 1, math.MaxInt,
}

// below: numbers below 0, those too that come to a frame's when they wrap or lose their upper bits.
var below = []int{
	-1, -2, -7, -8, -9, -255, -256, -999, -1000, -1001, -1 << 16, math.MinInt32, math.MinInt32 - 1, -1 << 32, -1<<32 + 1, -1<<32 + 5, -1 << 40, math.MinInt + 1000, math.MinInt + 1, math.MinInt,
}

// noise gives numbers without a pattern that is short, always the same of one seed.
type noise uint32

func (n *noise) next(below int) int {
	*n = 1664525**n + 1013904223
	return int(uint64(*n^*n>>13) * uint64(below) >> 32)
}

func (n *noise) bytes(count int) []byte {
	b := make([]byte, count)
	for i := range b {
		b[i] = byte(n.next(256))
	}
	return b
}

// some are count presses, none of them 0, that go on differently from each other start.
func some(start, count int) []byte {
	b := make([]byte, count)
	for i := range b {
		b[i] = byte(1 + (start*31+i)%255)
	}
	return b
}

// lineOf is a line of just these presses, Added one by one.
func lineOf(t *testing.T, presses []byte) *Line {
	t.Helper()
	l := New(0)
	for i, b := range presses {
		if err := l.Add(b); err != api.OK {
			t.Fatalf("P13.1: Add of frame %d: %v", i, err)
		}
	}
	return l
}

// holds: the line is of just these presses, whatever it is asked.
func holds(t *testing.T, l *Line, want []byte) {
	t.Helper()
	if got := l.Len(); got != len(want) {
		t.Fatalf("P13.1: Len: %d, not %d", got, len(want))
	}
	if got := l.All(); !bytes.Equal(got, want) {
		t.Fatalf("P13.1: All: %x, not %x", got, want)
	}
	for f, b := range want {
		if got, ok := l.At(f); got != b || !ok {
			t.Fatalf("P13.1: At(%d): %d, %t, not %d", f, got, ok, b)
		}
	}
	for _, f := range append([]int{-1, len(want), len(want) + 1, 1000}, append(below, above...)...) {
		if got, ok := l.At(f); got != 0 || ok {
			t.Fatalf("P13.1: At(%d) of %d frames: %d, %t", f, len(want), got, ok)
		}
	}
	half := len(want) / 2
	for _, x := range []struct {
		f, n int
		want []byte
	}{
		{0, len(want), want}, {0, len(want) + 1, want}, {0, math.MaxInt, want}, {half, math.MaxInt, want[half:]}, {0, half, want[:half]}, {half, 1, want[half:min(half+1, len(want))]},
		{len(want), 1, nil}, {len(want), math.MaxInt, nil}, {len(want) + 1, 1, nil}, {-1, len(want) + 1, nil}, {0, 0, nil}, {0, -1, nil},
	} {
		gives(t, l, x.f, x.n, x.want)
	}
}

// gives: From(f, n) is just that.
func gives(t *testing.T, l *Line, f, n int, want []byte) {
	t.Helper()
	if got := l.From(f, n); !bytes.Equal(got, want) {
		t.Fatalf("P13.1: From(%d, %d): %x, not %x", f, n, got, want)
	}
}

// put is what the chapter says of Put, press by press: the line behind it, how many, and the error.
func put(line []byte, first int, b []byte) ([]byte, int, api.Errno) {
	if first < 0 {
		return line, 0, api.ErrForm
	}
	if first > len(line) {
		return line, 0, api.ErrMore
	}
	n := 0
	for i, x := range b {
		if first+i < len(line) {
			continue
		}
		if len(line) == 1000 {
			return line, n, api.ErrFull
		}
		line = append(line, x)
		n++
	}
	return line, n, api.OK
}

// puts does a Put, and answers what the line is of behind it.
func puts(t *testing.T, l *Line, line []byte, first int, b []byte) []byte {
	t.Helper()
	want, wantN, wantErr := put(bytes.Clone(line), first, b)
	if n, err := l.Put(first, b); n != wantN || err != wantErr {
		t.Fatalf("P13.1: Put(%d, %d presses) behind %d frames: %d, %v, not %d, %v", first, len(b), len(line), n, err, wantN, wantErr)
	}
	if got := l.All(); !bytes.Equal(got, want) || l.Len() != len(want) {
		t.Fatalf("P13.1: Put(%d, %d presses) behind %d frames: Len %d, %x, not %x", first, len(b), len(line), l.Len(), got, want)
	}
	return want
}

func TestNew(t *testing.T) {
	for delay := range 9 {
		holds(t, New(delay), make([]byte, delay))
	}
	for _, delay := range below {
		holds(t, New(delay), nil)
	}
	for _, delay := range append([]int{9, 10, 15, 16, 255, 256, 257, 264, 999, 1000}, above...) {
		holds(t, New(delay), make([]byte, 8))
	}
}

// A delay's frames are known as all others are.
func TestDelayIsKnown(t *testing.T) {
	for delay := range 9 {
		l := New(delay)
		want := append(make([]byte, delay), 'x', 'y')
		if n, err := l.Put(0, bytes.Repeat([]byte{'q'}, delay)); n != 0 || err != api.OK {
			t.Errorf("P13.1: Put over the delay %d: %d, %v", delay, n, err)
		}
		holds(t, l, want[:delay])
		if n, err := l.Put(delay+1, []byte("xy")); n != 0 || err != api.ErrMore {
			t.Errorf("P13.1: Put above the delay %d: %d, %v", delay, n, err)
		}
		holds(t, l, want[:delay])
		if n, err := l.Put(delay, []byte("xy")); n != 2 || err != api.OK {
			t.Errorf("P13.1: Put behind the delay %d: %d, %v", delay, n, err)
		}
		holds(t, l, want)
	}
}

// A line that New did not make has no frames.
func TestZeroLine(t *testing.T) {
	var l Line
	holds(t, &l, nil)
	if err := l.Add(7); err != api.OK {
		t.Errorf("P13.1: Add: %v", err)
	}
	holds(t, &l, []byte{7})
}

// Each of the 256 presses is kept as it is, that of noughts too.
func TestEachPress(t *testing.T) {
	var line []byte
	l := New(0)
	for b := range 256 {
		if err := l.Add(byte(b)); err != api.OK {
			t.Fatalf("P13.1: Add(%d): %v", b, err)
		}
		line = append(line, byte(b))
		holds(t, l, line)
	}
	other := New(0)
	if n, err := other.Put(0, line); n != 256 || err != api.OK {
		t.Errorf("P13.1: Put of each press: %d, %v", n, err)
	}
	holds(t, other, line)
}

func TestAddUpToFull(t *testing.T) {
	for _, delay := range []int{0, 1, 8} {
		l := New(delay)
		line := make([]byte, delay)
		for f := delay; f < 1000; f++ {
			if err := l.Add(byte(f)); err != api.OK {
				t.Fatalf("P13.1: Add of frame %d: %v", f, err)
			}
			line = append(line, byte(f))
			if b, ok := l.At(f); b != byte(f) || !ok || l.Len() != f+1 {
				t.Fatalf("P13.1: behind Add of frame %d: %d, %t, Len %d", f, b, ok, l.Len())
			}
			if b, ok := l.At(f + 1); b != 0 || ok {
				t.Fatalf("P13.1: At(%d) behind Add of frame %d: %d, %t", f+1, f, b, ok)
			}
		}
		holds(t, l, line)
		for _, b := range []byte{0, 1, 255} {
			if err := l.Add(b); err != api.ErrFull {
				t.Errorf("P13.1: Add behind 1,000: %v", err)
			}
			holds(t, l, line)
		}
	}
}

// The last frame may come by Add or by Put.
func TestLastFrame(t *testing.T) {
	ahead := some(3, 999)
	want := append(bytes.Clone(ahead), 'z')
	l := lineOf(t, ahead)
	holds(t, l, ahead)
	if err := l.Add('z'); err != api.OK {
		t.Errorf("P13.1: Add of the last frame: %v", err)
	}
	holds(t, l, want)
	for _, first := range []int{999, 998, 0} {
		l = lineOf(t, ahead)
		if n, err := l.Put(first, want[first:]); n != 1 || err != api.OK {
			t.Errorf("P13.1: Put(%d) of the last frame: %d, %v", first, n, err)
		}
		holds(t, l, want)
	}
	if n, err := New(0).Put(0, want); n != 1000 || err != api.OK {
		t.Errorf("P13.1: Put of all 1,000: %d, %v", n, err)
	}
}

// What comes is written out: of a line of "abcd".
func TestPut(t *testing.T) {
	for _, x := range []struct {
		first int
		b     string
		n     int
		err   api.Errno
		want  string
	}{
		// None is known.
		{4, "", 0, api.OK, "abcd"}, {4, "e", 1, api.OK, "abcde"}, {4, "efg", 3, api.OK, "abcdefg"}, {4, "\x00\x00", 2, api.OK, "abcd\x00\x00"},
		// Some are, and what is known tells otherwise too.
		{3, "de", 1, api.OK, "abcde"}, {3, "De", 1, api.OK, "abcde"}, {0, "abcdef", 2, api.OK, "abcdef"}, {0, "ABCDef", 2, api.OK, "abcdef"}, {2, "\x00\x00\x00\x00", 2, api.OK, "abcd\x00\x00"}, {1, "zzzzz", 2, api.OK, "abcdzz"},
		// All are.
		{0, "abcd", 0, api.OK, "abcd"}, {0, "ABCD", 0, api.OK, "abcd"}, {0, "Z", 0, api.OK, "abcd"}, {1, "bc", 0, api.OK, "abcd"}, {3, "D", 0, api.OK, "abcd"}, {2, "\x00\x00", 0, api.OK, "abcd"},
		// There are no presses.
		{0, "", 0, api.OK, "abcd"}, {3, "", 0, api.OK, "abcd"}, {5, "", 0, api.ErrMore, "abcd"}, {-1, "", 0, api.ErrForm, "abcd"},
		// First is above or below what it may be.
		{5, "f", 0, api.ErrMore, "abcd"}, {6, "fgh", 0, api.ErrMore, "abcd"}, {-1, "e", 0, api.ErrForm, "abcd"}, {-1, "zabcdef", 0, api.ErrForm, "abcd"}, {-4, "zzzzabcdef", 0, api.ErrForm, "abcd"},
	} {
		l := lineOf(t, []byte("abcd"))
		for range 2 {
			if n, err := l.Put(x.first, []byte(x.b)); n != x.n || err != x.err {
				t.Errorf("P13.1: Put(%d, %q): %d, %v, not %d, %v", x.first, x.b, n, err, x.n, x.err)
			}
			holds(t, l, []byte(x.want))
			// By now all of it is known.
			x.n = 0
		}
	}
}

func TestPutNil(t *testing.T) {
	l := lineOf(t, []byte("abcd"))
	for first, want := range []api.Errno{api.OK, api.OK, api.OK, api.OK, api.OK, api.ErrMore, api.ErrMore} {
		if n, err := l.Put(first, nil); n != 0 || err != want {
			t.Errorf("P13.1: Put(%d, nil): %d, %v", first, n, err)
		}
		holds(t, l, []byte("abcd"))
	}
	if n, err := l.Put(-1, nil); n != 0 || err != api.ErrForm {
		t.Errorf("P13.1: Put(-1, nil): %d, %v", n, err)
	}
}

// Each way in which a short line and a short list may lie to each other.
func TestPutAnywhere(t *testing.T) {
	for known := range 10 {
		for first := -3; first <= known+3; first++ {
			for count := range 14 {
				line := some(1, known)
				l := lineOf(t, line)
				holds(t, l, puts(t, l, line, first, some(7, count)))
			}
		}
	}
}

// And those near the line's end.
func TestPutNearFull(t *testing.T) {
	for known := 994; known <= 1000; known++ {
		line := some(1, known)
		for first := known - 6; first <= known+2; first++ {
			for count := range 16 {
				l := lineOf(t, line)
				puts(t, l, line, first, some(7, count))
			}
		}
		for _, count := range []int{0, 1, known - 1, known, known + 1, 999, 1000, 1001, 1002, 5000} {
			l := lineOf(t, line)
			holds(t, l, puts(t, l, line, 0, some(7, count)))
		}
	}
}

// Up to 1,000 are added, those ahead, and the others are not.
func TestPutMoreThanFits(t *testing.T) {
	for _, x := range []struct{ known, first, count, n int }{
		{0, 0, 1001, 1000}, {0, 0, 1 << 20, 1000}, {8, 8, 993, 992}, {8, 0, 1001, 992}, {8, 3, 998, 992},
		{999, 999, 2, 1}, {999, 0, 1001, 1}, {998, 998, 3, 2}, {500, 500, 501, 500}, {500, 200, 801, 500}, {500, 200, 4000, 500},
		{1000, 1000, 1, 0}, {1000, 1000, 300, 0}, {1000, 999, 2, 0}, {1000, 0, 1001, 0}, {1000, 0, 1 << 20, 0},
	} {
		line, b := some(1, x.known), some(7, x.count)
		l := lineOf(t, line)
		if n, err := l.Put(x.first, b); n != x.n || err != api.ErrFull {
			t.Errorf("P13.1: Put(%d, %d presses) behind %d: %d, %v, not %d", x.first, x.count, x.known, n, err, x.n)
		}
		line = append(line, b[x.known-x.first:][:x.n]...)
		holds(t, l, line)
		if err := l.Add(1); err != api.ErrFull {
			t.Errorf("P13.1: Add behind a Put that filled the line: %v", err)
		}
		holds(t, l, line)
	}
}

// Of a full line all that is known may come again, and nothing may come above its end.
func TestPutOfFull(t *testing.T) {
	line := some(1, 1000)
	l := lineOf(t, line)
	for _, x := range []struct {
		first, count int
		err          api.Errno
	}{
		{0, 1000, api.OK}, {0, 999, api.OK}, {1, 999, api.OK}, {999, 1, api.OK}, {999, 0, api.OK}, {1000, 0, api.OK}, {500, 500, api.OK},
		{1001, 0, api.ErrMore}, {1001, 1, api.ErrMore}, {1001, 2000, api.ErrMore}, {-1, 0, api.ErrForm}, {-1, 1, api.ErrForm}, {-1, 5000, api.ErrForm},
		{1000, 1, api.ErrFull}, {999, 2, api.ErrFull}, {0, 1001, api.ErrFull},
	} {
		if n, err := l.Put(x.first, some(7, x.count)); n != 0 || err != x.err {
			t.Errorf("P13.1: Put(%d, %d presses) of a full line: %d, %v, not %v", x.first, x.count, n, err, x.err)
		}
		holds(t, l, line)
	}
}

func TestPutFarFrames(t *testing.T) {
	for _, known := range []int{0, 5, 1000} {
		line := some(1, known)
		l := lineOf(t, line)
		for _, count := range []int{0, 1, known, 2000} {
			b := some(7, count)
			for _, first := range below {
				if n, err := l.Put(first, b); n != 0 || err != api.ErrForm {
					t.Errorf("P13.1: Put(%d, %d presses): %d, %v", first, count, n, err)
				}
			}
			for _, first := range above {
				if n, err := l.Put(first, b); n != 0 || err != api.ErrMore {
					t.Errorf("P13.1: Put(%d, %d presses): %d, %v", first, count, n, err)
				}
			}
			holds(t, l, line)
		}
	}
}

// What is known stays, however often it is told otherwise.
func TestKnownStays(t *testing.T) {
	l := New(2)
	want := []byte("\x00\x00abc")
	if n, err := l.Put(2, []byte("abc")); n != 3 || err != api.OK {
		t.Fatalf("P13.1: Put: %d, %v", n, err)
	}
	for _, other := range []string{"zzzzz", "\x00\x00\x00\x00\x00", "\xff\xff\xff\xff\xff", "cba\x00\x00"} {
		for first := range 5 {
			for count := range 6 - first {
				if n, err := l.Put(first, []byte(other)[:count]); n != 0 || err != api.OK {
					t.Errorf("P13.1: Put(%d, %q): %d, %v", first, other[:count], n, err)
				}
			}
		}
		holds(t, l, want)
	}
}

// Each At and each From of lines of each length up to 20.
func TestAsked(t *testing.T) {
	for known := range 21 {
		line := some(known, known)
		l := lineOf(t, line)
		holds(t, l, line)
		for f := -3; f <= known+3; f++ {
			isIn := 0 <= f && f < known
			b, ok := l.At(f)
			if ok != isIn || ok && b != line[f] || !ok && b != 0 {
				t.Errorf("P13.1: At(%d) of %d frames: %d, %t", f, known, b, ok)
			}
			for n := -3; n <= known+3; n++ {
				var want []byte
				for k := f; isIn && k < known && k < f+n; k++ {
					want = append(want, line[k])
				}
				gives(t, l, f, n, want)
			}
		}
	}
}

// From of fewer, of as many and of more frames than are known from there; written out.
func TestFrom(t *testing.T) {
	l := lineOf(t, []byte("abcdefg"))
	for _, x := range []struct {
		f, n int
		want string
	}{
		{0, 1, "a"}, {0, 6, "abcdef"}, {0, 7, "abcdefg"}, {0, 8, "abcdefg"}, {0, 1000, "abcdefg"}, {0, 1001, "abcdefg"},
		{3, 1, "d"}, {3, 3, "def"}, {3, 4, "defg"}, {3, 5, "defg"}, {3, 7, "defg"},
		{6, 1, "g"}, {6, 2, "g"}, {7, 1, ""}, {8, 1, ""}, {7, 7, ""},
		{0, 0, ""}, {3, 0, ""}, {3, -1, ""}, {6, -6, ""}, {7, -7, ""}, {-1, 1, ""}, {-1, 2, ""}, {-7, 14, ""}, {-1, 0, ""}, {-1, -1, ""},
	} {
		gives(t, l, x.f, x.n, []byte(x.want))
	}
}

// Sums of the two that would wrap, and numbers that come to a frame's when they lose their upper bits.
func TestFromFar(t *testing.T) {
	for _, known := range []int{0, 1, 7, 1000} {
		line := some(1, known)
		l := lineOf(t, line)
		for f := range known {
			for _, n := range above {
				gives(t, l, f, n, line[f:])
			}
			for _, n := range below {
				gives(t, l, f, n, nil)
			}
		}
		for _, f := range append(below, above...) {
			for _, n := range append([]int{0, 1, 7, 1000}, append(below, above...)...) {
				gives(t, l, f, n, nil)
			}
		}
	}
}

// At the first frame, at the last one and at the first that is not known.
func TestEnds(t *testing.T) {
	for _, known := range []int{1, 2, 8, 9, 255, 256, 257, 999, 1000} {
		line := some(known, known)
		l := lineOf(t, line)
		for _, f := range []int{0, known - 1} {
			if b, ok := l.At(f); b != line[f] || !ok {
				t.Errorf("P13.1: At(%d) of %d: %d, %t", f, known, b, ok)
			}
			gives(t, l, f, 1, line[f:f+1])
			gives(t, l, f, known-f, line[f:])
			gives(t, l, f, known-f+1, line[f:])
		}
		if b, ok := l.At(known); b != 0 || ok {
			t.Errorf("P13.1: At(%d) of %d: %d, %t", known, known, b, ok)
		}
		gives(t, l, known, 1, nil)
		gives(t, l, known, 1000, nil)
	}
}

func TestNilLine(t *testing.T) {
	var l *Line
	for range 2 {
		if got := l.Len(); got != 0 {
			t.Errorf("P13.1: nil: Len: %d", got)
		}
		for _, f := range append([]int{0, 1, 7, 999, 1000}, append(below, above...)...) {
			if b, ok := l.At(f); b != 0 || ok {
				t.Errorf("P13.1: nil: At(%d): %d, %t", f, b, ok)
			}
			for _, n := range []int{math.MinInt, -1, 0, 1, 1000, math.MaxInt} {
				if got := l.From(f, n); len(got) != 0 {
					t.Errorf("P13.1: nil: From(%d, %d): %x", f, n, got)
				}
			}
			for _, b := range [][]byte{nil, {}, {7}, make([]byte, 2000)} {
				if n, err := l.Put(f, b); n != 0 || err != api.ErrNone {
					t.Errorf("P13.1: nil: Put(%d, %d presses): %d, %v", f, len(b), n, err)
				}
			}
		}
		for _, b := range []byte{0, 7, 255} {
			if err := l.Add(b); err != api.ErrNone {
				t.Errorf("P13.1: nil: Add(%d): %v", b, err)
			}
		}
		if got := l.All(); len(got) != 0 {
			t.Errorf("P13.1: nil: All: %x", got)
		}
	}
}

// scribble writes over a list and over its spare room.
func scribble(b []byte) {
	b = b[:cap(b)]
	for i := range b {
		b[i] = 0xee
	}
}

// P0.3: what All and From handed back is the caller's.
func TestAnswersAreTheCallers(t *testing.T) {
	for _, known := range []int{0, 1, 7, 8, 31, 32, 33, 999, 1000} {
		line := some(1, known)
		l := lineOf(t, line)
		for _, ask := range []func() []byte{
			l.All,
			func() []byte { return l.From(0, known) },
			func() []byte { return l.From(0, 1) },
			func() []byte { return l.From(known/2, 3) },
			func() []byte { return l.From(known-1, 1) },
			func() []byte { return l.From(known, 1) },
			func() []byte { return l.From(0, 0) },
		} {
			first, second := ask(), ask()
			kept := bytes.Clone(second)
			scribble(first)
			if !bytes.Equal(second, kept) {
				t.Errorf("P0.3: two answers of %d frames share memory", known)
			}
			_ = append(second, 0xee)
			scribble(second)
			holds(t, l, line)
		}
		answer := l.All()
		kept := bytes.Clone(answer)
		l.Add('z')
		_ = append(answer, 'y')
		if !bytes.Equal(answer, kept) {
			t.Errorf("P0.3: an answer of %d frames changed with the line", known)
		}
		if known < 1000 {
			line = append(line, 'z')
		}
		holds(t, l, line)
	}
}

// P0.3: what Put was handed is neither changed nor kept, its spare room neither.
func TestHandedInIsTheCallers(t *testing.T) {
	for _, x := range []struct{ known, first, count, room int }{
		{0, 0, 4, 0}, {0, 0, 4, 1200}, {3, 3, 4, 9}, {3, 0, 9, 9}, {3, 1, 1, 5}, {3, 5, 2, 2}, {3, -1, 2, 2}, {3, 3, 0, 8},
		{998, 998, 9, 9}, {1000, 1000, 3, 3}, {0, 0, 1000, 1000}, {0, 0, 1001, 1000}, {500, 100, 2000, 50},
	} {
		line := some(1, x.known)
		l := lineOf(t, line)
		whole := some(7, x.count+x.room)
		b, kept := whole[:x.count], bytes.Clone(whole)
		line = puts(t, l, line, x.first, b)
		if !bytes.Equal(whole, kept) {
			t.Errorf("P0.3: Put(%d, %d presses) changed what it was handed", x.first, x.count)
		}
		scribble(whole)
		holds(t, l, line)
		for err := api.OK; err == api.OK && len(line) < 1000; {
			err = l.Add('z')
			line = append(line, 'z')
		}
		for _, b := range whole {
			if b != 0xee {
				t.Errorf("P0.3: behind Put(%d, %d presses) Add wrote into what it was handed", x.first, x.count)
				break
			}
		}
		holds(t, l, line)
	}
}

// A line may be handed what it or another one answered.
func TestHandedItsOwn(t *testing.T) {
	l := lineOf(t, []byte("abcd"))
	if n, err := l.Put(4, l.All()); n != 4 || err != api.OK {
		t.Errorf("P13.1: Put of its own: %d, %v", n, err)
	}
	holds(t, l, []byte("abcdabcd"))
	if n, err := l.Put(6, l.From(1, 5)); n != 3 || err != api.OK {
		t.Errorf("P13.1: Put of its own: %d, %v", n, err)
	}
	holds(t, l, []byte("abcdabcddab"))
	other := New(0)
	if n, err := other.Put(0, l.All()); n != 11 || err != api.OK {
		t.Errorf("P13.1: Put of another's: %d, %v", n, err)
	}
	l.Add('x')
	other.Add('y')
	holds(t, l, []byte("abcdabcddabx"))
	holds(t, other, []byte("abcdabcddaby"))
}

// P0.5: lines know nothing of each other.
func TestManyLines(t *testing.T) {
	var lines [40]*Line
	var want [40][]byte
	for i := range lines {
		lines[i], want[i] = New(i%9), make([]byte, i%9)
	}
	for round := range 30 {
		for i, l := range lines {
			if (round+i)%3 == 0 {
				want[i] = puts(t, l, want[i], l.Len(), some(i, round%7))
				continue
			}
			if err := l.Add(byte(round*i + 1)); err != api.OK {
				t.Fatalf("P13.1: Add: %v", err)
			}
			want[i] = append(want[i], byte(round*i+1))
		}
	}
	for i, l := range lines {
		holds(t, l, want[i])
	}
}

// Many calls of all kinds, each held against the chapter's words.
func TestLongWay(t *testing.T) {
	for seed := range 60 {
		n := noise(seed)
		delay := n.next(12) - 1
		l, line := New(delay), make([]byte, min(max(delay, 0), 8))
		for range 150 {
			switch n.next(4) {
			case 0:
				line = puts(t, l, line, max(len(line)-n.next(20), 0), n.bytes(n.next(40)))
			case 1:
				line = puts(t, l, line, len(line)+n.next(4)-1, n.bytes(n.next(33)))
			case 2:
				b := byte(n.next(256))
				want, _, wantErr := put(line, len(line), []byte{b})
				if err := l.Add(b); err != wantErr {
					t.Fatalf("P13.1: Add behind %d: %v, not %v", len(line), err, wantErr)
				}
				line = want
			case 3:
				f, count := n.next(len(line)+1), n.next(40)
				gives(t, l, f, count, line[f:min(f+count, len(line))])
			}
		}
		holds(t, l, line)
	}
}

// P0.5: a line that is asked stays as it is, and one that refused something is as it was ahead of it.
func TestAskedAgain(t *testing.T) {
	l := lineOf(t, []byte(strings.Repeat("go", 100)))
	want := l.All()
	for range 3 {
		holds(t, l, want)
		l.Put(-1, []byte("zz"))
		l.Put(201, []byte("zz"))
		l.Put(math.MinInt, nil)
		l.Put(math.MaxInt, want)
		holds(t, l, want)
	}
	if n, err := l.Put(200, []byte("!")); n != 1 || err != api.OK {
		t.Errorf("P13.1: Put behind what was refused: %d, %v", n, err)
	}
	holds(t, l, append(want, '!'))
}
