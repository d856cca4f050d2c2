package runs

import (
	"bytes"
	"encoding/binary"
	"math"
	"strings"
	"testing"

	"quintain/api"
)

// steps: the lengths about those at which num.Put takes a byte more, and how many bytes it takes from there on.
var steps = []struct{ from, size int }{{64, 2}, {8192, 3}, {1 << 20, 4}}

// huge: lengths that no list has.
var huge = []int{
	math.MaxInt32, 1 << 31, 1<<32 - 1, 1 << 32, 1<<32 + 1, 1<<32 + 4, 1 << 40, 1<<62 - 1, 1 << 62, 1<<62 + 5, math.MaxInt - 8, math.MaxInt - 1, math.MaxInt,
}

// below: numbers below 0, those too that come to more than 0 when they wrap or lose their upper bits.
var below = []int{
	-1, -2, -8, -9, -64, -65, -255, -256, -257, -1000, -1 << 16, math.MinInt32, math.MinInt32 - 1, -1 << 32, -1<<32 + 5, math.MinInt + 1, math.MinInt,
}

// told is a run as bytes: its length as the library writes it, which the package does without, and its change.
func told(length int, change byte) string {
	return string(append(binary.AppendVarint(nil, int64(length)), change))
}

// encode is what the chapter says of Encode, press by press.
func encode(b []byte) string {
	s, length, ahead := "", 0, byte(0)
	for i, x := range b {
		length++
		if i+1 < len(b) && b[i+1] == x {
			continue
		}
		s += told(length, x^ahead)
		length, ahead = 0, x
	}
	return s
}

// decode is what the chapter says of Decode, run by run.
func decode(b []byte, most int) ([]byte, api.Errno) {
	var out []byte
	value := byte(0)
	for at := 0; at < len(b); {
		n, size := binary.Varint(b[at:])
		if size <= 0 || size != len(binary.AppendVarint(nil, n)) || n < 1 {
			return nil, api.ErrForm
		}
		if at+size >= len(b) {
			return nil, api.ErrForm
		}
		change := b[at+size]
		if change == 0 && at > 0 {
			return nil, api.ErrForm
		}
		if n > int64(max(most, 0)-len(out)) {
			return nil, api.ErrFull
		}
		value ^= change
		out = append(out, bytes.Repeat([]byte{value}, int(n))...)
		at += size + 1
	}
	return out, api.OK
}

// short is a list in few letters.
func short(b []byte) []byte { return b[:min(len(b), 24)] }

// thereAndBack: Encode of b is just want, and Decode gives b where there is room, and ErrFull where there is none.
func thereAndBack(t *testing.T, b []byte, want string) {
	t.Helper()
	got := Encode(b)
	if string(got) != want {
		t.Fatalf("P14.1: Encode of %d presses %x: %x, not %x", len(b), short(b), short(got), short([]byte(want)))
	}
	for _, most := range []int{len(b), len(b) + 1, len(b) + 1000, 1 << 32, math.MaxInt} {
		if x, err := Decode(got, most); !bytes.Equal(x, b) || err != api.OK {
			t.Fatalf("P14.1: Decode of %d presses %x, most %d: %d presses %x, %v", len(b), short(b), most, len(x), short(x), err)
		}
	}
	if len(b) == 0 {
		return
	}
	for _, most := range append([]int{len(b) - 1, len(b) / 2, 1, 0}, below...) {
		if most < len(b) {
			refuses(t, string(got), most, api.ErrFull)
		}
	}
}

// refuses: Decode answers that error, and no list.
func refuses(t *testing.T, s string, most int, want api.Errno) {
	t.Helper()
	if x, err := Decode([]byte(s), most); x != nil || err != want {
		t.Fatalf("P14.1: Decode of %x, most %d: %d presses %x, %v, not %v", short([]byte(s)), most, len(x), short(x), err, want)
	}
}

// noise gives numbers without a pattern that is short, always the same of one seed.
type noise uint32

func (n *noise) next(below int) int {
	*n = 1664525**n + 1013904223
	return int(uint64(*n^*n>>13) * uint64(below) >> 32)
}

// eachList asks f for all lists of up to n bytes of signs.
func eachList(signs string, n int, f func(b []byte)) {
	var grow func(b []byte, n int)
	grow = func(b []byte, n int) {
		f(b)
		if n == 0 {
			return
		}
		for i := range len(signs) {
			grow(append(bytes.Clone(b), signs[i]), n-1)
		}
	}
	grow(nil, n)
}

func TestOrdinaryLists(t *testing.T) {
	for s, want := range map[string]string{
		"":                         "",
		"\x00":                     "\x02\x00",
		"\x01":                     "\x02\x01",
		"a":                        "\x02a",
		"\xff":                     "\x02\xff",
		"aa":                       "\x04a",
		"ab":                       "\x02a\x02\x03",
		"ba":                       "\x02b\x02\x03",
		"aab":                      "\x04a\x02\x03",
		"abb":                      "\x02a\x04\x03",
		"aba":                      "\x02a\x02\x03\x02\x03",
		"abab":                     "\x02a\x02\x03\x02\x03\x02\x03",
		"aabbaa":                   "\x04a\x04\x03\x04\x03",
		"abc":                      "\x02a\x02\x03\x02\x01",
		"\x00\x00":                 "\x04\x00",
		"\x00\x00\x00a":            "\x06\x00\x02a",
		"\x00\x00\x01\x00":         "\x04\x00\x02\x01\x02\x01",
		"a\x00":                    "\x02a\x02a",
		"a\x00\x00a":               "\x02a\x04a\x02a",
		"\xff\x00\xff":             "\x02\xff\x02\xff\x02\xff",
		"\xf0\x0f":                 "\x02\xf0\x02\xff",
		"\x7f\x80":                 "\x02\x7f\x02\xff",
		"\x01\x03\x07\x0f":         "\x02\x01\x02\x02\x02\x04\x02\x08",
		"hello":                    "\x02h\x02\x0d\x04\x09\x02\x03",
		"\xe9\xe9\xe9\x00\x00\x16": "\x06\xe9\x04\xe9\x02\x16",
	} {
		thereAndBack(t, []byte(s), want)
	}
}

// Nil is as empty; Decode needs no room for it.
func TestNoPresses(t *testing.T) {
	for _, b := range [][]byte{nil, {}, []byte("abc")[:0], make([]byte, 0, 64)} {
		if got := Encode(b); len(got) != 0 {
			t.Errorf("P14.1: Encode of nothing: %x", got)
		}
		for _, most := range append([]int{0, 1, 1000, math.MaxInt}, below...) {
			if x, err := Decode(b, most); len(x) != 0 || err != api.OK {
				t.Errorf("P14.1: Decode of nothing, most %d: %x, %v", most, x, err)
			}
		}
	}
}

func TestEachPress(t *testing.T) {
	for i := range 256 {
		x := byte(i)
		thereAndBack(t, []byte{x}, "\x02"+string([]byte{x}))
		thereAndBack(t, []byte{x, x, x}, "\x06"+string([]byte{x}))
		for j := range 256 {
			if y := byte(j); x != y {
				thereAndBack(t, []byte{x, y}, string([]byte{2, x, 2, x ^ y}))
			}
		}
	}
}

// A first run of noughts has the change 0, and no other run has it.
func TestNoughtsAhead(t *testing.T) {
	for _, n := range []int{1, 2, 8, 63, 64, 65, 300} {
		noughts := strings.Repeat("\x00", n)
		thereAndBack(t, []byte(noughts), told(n, 0))
		thereAndBack(t, []byte(noughts+"\x05"), told(n, 0)+"\x02\x05")
		thereAndBack(t, []byte("\x05"+noughts), "\x02\x05"+told(n, 5))
		thereAndBack(t, []byte(noughts+"\x05\x05"+noughts), told(n, 0)+"\x04\x05"+told(n, 5))
	}
}

// Runs of the lengths about those at which their length takes a byte more.
func TestLongRuns(t *testing.T) {
	for _, step := range steps {
		for n := step.from - 2; n <= step.from+2; n++ {
			size := step.size
			if n < step.from {
				size--
			}
			for _, x := range []byte{0, 'x', 255} {
				run := bytes.Repeat([]byte{x}, n)
				if got := Encode(run); len(got) != size+1 {
					t.Errorf("P14.1: Encode of a run of %d: %x", n, got)
				}
				thereAndBack(t, run, told(n, x))
				thereAndBack(t, append(bytes.Clone(run), x^3), told(n, x)+"\x02\x03")
				thereAndBack(t, append([]byte{x ^ 3}, run...), "\x02"+string([]byte{x ^ 3})+told(n, 3))
			}
		}
	}
	thereAndBack(t, bytes.Repeat([]byte{'x'}, 64), "\x80\x01x")
	thereAndBack(t, bytes.Repeat([]byte{'x'}, 63), "\x7ex")
	thereAndBack(t, bytes.Repeat([]byte{'x'}, 8192), "\x80\x80\x01x")
}

func TestRunOfEachLength(t *testing.T) {
	for n := 1; n < 700; n++ {
		thereAndBack(t, bytes.Repeat([]byte{7}, n), told(n, 7))
		b := append(bytes.Repeat([]byte{7}, n), bytes.Repeat([]byte{9}, 700-n)...)
		thereAndBack(t, b, told(n, 7)+told(700-n, 14))
	}
}

// Neighbours that all differ, up to a list of which a step is too many to take for each press anew.
func TestNeighboursDiffer(t *testing.T) {
	all := make([]byte, 256)
	for i := range all {
		all[i] = byte(i)
	}
	thereAndBack(t, all, encode(all))
	const many = 1 << 19
	b, want := make([]byte, many), make([]byte, 0, 2*many)
	ahead := byte(0)
	for i := range b {
		b[i] = byte(i*7 + 1)
		want = append(want, 2, b[i]^ahead)
		ahead = b[i]
	}
	thereAndBack(t, b, string(want))
}

func TestAllShortLists(t *testing.T) {
	eachList("\x00\x01\xff", 8, func(b []byte) { thereAndBack(t, b, encode(b)) })
	eachList("\x00\x01\x02\x80a", 5, func(b []byte) { thereAndBack(t, b, encode(b)) })
}

func TestNoisyLists(t *testing.T) {
	for seed := range 400 {
		n := noise(seed)
		var b []byte
		for range n.next(30) {
			b = append(b, bytes.Repeat([]byte{byte(n.next(4) * 85)}, 1+n.next(90))...)
		}
		thereAndBack(t, b, encode(b))
	}
}

// Whatever is taken, Encode makes; and each answer is the chapter's.
func TestDecodeOfAllShortLists(t *testing.T) {
	const signs = "\x00\x01\x02\x04\x06\x7e\x80\x81\xff"
	for _, most := range []int{-1, 0, 1, 3, 5, 100} {
		eachList(signs, 5, func(b []byte) {
			want, wantErr := decode(b, most)
			x, err := Decode(b, most)
			if !bytes.Equal(x, want) || err != wantErr || err != api.OK && x != nil {
				t.Fatalf("P14.1: Decode of %x, most %d: %x, %v, not %x, %v", b, most, x, err, want, wantErr)
			}
			if err == api.OK && !bytes.Equal(Encode(x), b) {
				t.Fatalf("P14.1: Decode took %x, and Encode makes %x", b, Encode(x))
			}
		})
	}
}

// Good runs, of which one byte is another one, or some are cut off.
func TestDecodeOfSpoiledLists(t *testing.T) {
	for seed := range 3000 {
		n := noise(seed)
		var b []byte
		for i := range 1 + n.next(6) {
			b = append(b, told(1+n.next(100), byte(n.next(255)+min(i, 1)))...)
		}
		switch n.next(3) {
		case 0:
			b[n.next(len(b))] = byte(n.next(256))
		case 1:
			b = b[:n.next(len(b)+1)]
		}
		for _, most := range []int{n.next(40), 200, 1000} {
			want, wantErr := decode(b, most)
			if x, err := Decode(b, most); !bytes.Equal(x, want) || err != wantErr {
				t.Fatalf("P14.1: Decode of %x, most %d: %x, %v, not %x, %v", b, most, x, err, want, wantErr)
			}
		}
	}
}

// What Encode makes, cut anywhere: at a run's end it is a list, and nowhere else.
func TestDecodeOfCutLists(t *testing.T) {
	list := []byte("\x00\x00\x00aab" + strings.Repeat("x", 64) + strings.Repeat("\x00", 9000) + "q")
	b := Encode(list)
	ends := map[int]int{0: 0, 2: 3, 4: 5, 6: 6, 9: 70, 13: 9070, 15: 9071}
	for cut := range len(b) + 1 {
		presses, isEnd := ends[cut]
		if !isEnd {
			refuses(t, string(b[:cut]), 1<<20, api.ErrForm)
			continue
		}
		if x, err := Decode(b[:cut], presses); !bytes.Equal(x, list[:presses]) || err != api.OK {
			t.Errorf("P14.1: Decode of the first %d bytes: %d presses, %v", cut, len(x), err)
		}
	}
}

// bad: what is no run, wherever it stands.
func bad() []string {
	nine, noughts := strings.Repeat("\xff", 9), strings.Repeat("\x80", 9)
	b := []string{
		// A length of 0 and below 0.
		"\x00", "\x00a", "\x00\x00", "\x00\x01", "\x01", "\x01a", "\x01\x00", "\x03a", "\x7fa", "\x81\x01a", nine + "\x01a", "\xfd" + nine[1:] + "\x01a",
		// What num.Get refuses: an end within a number, one longer than needed, and one beyond an int64.
		"\x80", "\xff", "\x80\x80", "\xff\xff\xff", nine, noughts,
		"\x80\x00", "\x80\x00a", "\x82\x00a", "\x84\x80\x00a", "\xff\x00a", noughts + "\x00a",
		noughts + "\x02a", noughts + "\x7fa", nine + "\x02a", nine + "\x03a", nine + "\x80", nine + "\xff", nine + "\x81\x00a", strings.Repeat("\x80", 5000) + "\x01a",
		// A length without its byte.
		"\x02", "\x04", "\x7e", "\x80\x01", "\xfe\x7f", "\x80\x80\x80\x01",
	}
	for _, length := range huge {
		s := told(length, 'a')
		b = append(b, s[:len(s)-1])
	}
	for _, length := range below {
		b = append(b, told(length, 'a'))
	}
	return b
}

// rooms: how many presses there may be.
func rooms() []int {
	return append([]int{0, 1, 2, 3, 8, 1000, 1 << 40, math.MaxInt}, below...)
}

func TestNoRunAtTheBeginning(t *testing.T) {
	for _, s := range bad() {
		for _, most := range rooms() {
			refuses(t, s, most, api.ErrForm)
			if !endsShort(s) {
				refuses(t, s+"\x02b", most, api.ErrForm)
				refuses(t, s+told(math.MaxInt, 'b'), most, api.ErrForm)
			}
		}
	}
}

// endsShort: bytes behind it would be taken for more of it.
func endsShort(s string) bool {
	n, size := binary.Varint([]byte(s))
	return size == 0 || size == len(s) && n > 0
}

// Behind good runs, which are within most: just so many, and more.
func TestNoRunBehindGoodOnes(t *testing.T) {
	faults := append(bad(), "\x02\x00", "\x04\x00", "\x80\x01\x00", "\x02\x00\x02b")
	for _, length := range huge {
		faults = append(faults, told(length, 0))
	}
	for _, ahead := range []struct {
		s string
		n int
	}{{"\x02a", 1}, {"\x04\x00", 2}, {"\x02\x00\x02\x05", 2}, {"\x06a\x02\x03\x04\xff", 6}, {"\x80\x01x\x02\x01", 65}} {
		for _, s := range faults {
			for _, most := range []int{ahead.n, ahead.n + 1, ahead.n + 5, 1 << 40, math.MaxInt} {
				refuses(t, ahead.s+s, most, api.ErrForm)
			}
		}
	}
}

// A change of 0 is the first run's alone.
func TestChangeOfNought(t *testing.T) {
	for _, s := range []string{"\x02\x00\x02\x00", "\x02a\x02\x00", "\x02a\x02\x03\x02\x00", "\x04a\x02\x00\x02\x03", "\x02\x00\x80\x01\x00"} {
		refuses(t, s, 1000, api.ErrForm)
	}
	for s, want := range map[string]string{"\x02\x00": "\x00", "\x06\x00": "\x00\x00\x00", "\x04\x00\x02\x01": "\x00\x00\x01"} {
		if x, err := Decode([]byte(s), 3); string(x) != want || err != api.OK {
			t.Errorf("P14.1: Decode of %x: %x, %v", s, x, err)
		}
	}
}

// One run with both faults is no run; whatever comes behind a run that goes over most counts no more.
func TestOrderOfErrors(t *testing.T) {
	for _, x := range []struct {
		s    string
		want api.Errno
	}{
		// One run has both.
		{"\x14", api.ErrForm}, {"\x02a\x12\x00", api.ErrForm}, {"\x02a\x12", api.ErrForm}, {"\x10a\x02\x00", api.ErrForm}, {"\x10a\x02", api.ErrForm}, {"\x10a\x92\x00b", api.ErrForm},
		// An earlier run goes over most.
		{"\x12a", api.ErrFull}, {"\x12\x00", api.ErrFull}, {"\x12a\x00b", api.ErrFull}, {"\x12a\x02\x00", api.ErrFull}, {"\x12a\x02", api.ErrFull}, {"\x12a\x80", api.ErrFull}, {"\x12a\xff\xff", api.ErrFull}, {"\x12a\x01b", api.ErrFull},
		{"\x0ea\x04b\x00b", api.ErrFull}, {"\x10a\x02b\x01b", api.ErrFull}, {"\x10a\x02b\x02\x00", api.ErrFull}, {"\x02a\x02b\x7ec\x80", api.ErrFull},
		// An earlier run is none.
		{"\x00a\x12b", api.ErrForm}, {"\x02a\x02\x00\x12b", api.ErrForm}, {"\x02a\x00b\x7e", api.ErrForm}, {"\x02a\x01b\x7ec", api.ErrForm},
		// There are just so many ahead of it.
		{"\x10a\x00b", api.ErrForm}, {"\x10a\x80", api.ErrForm}, {"\x08a\x08b\x01c", api.ErrForm},
	} {
		refuses(t, x.s, 8, x.want)
	}
}

// A run goes over most behind runs that did not.
func TestFullBehindGoodRuns(t *testing.T) {
	for most := range 12 {
		ahead := ""
		for n := range most + 1 {
			for more := most - n + 1; more < most+4; more++ {
				refuses(t, ahead+told(more, 1), most, api.ErrFull)
				refuses(t, ahead+told(more, 1)+"\x02\x01", most, api.ErrFull)
			}
			ahead += "\x02\x01"
		}
		refuses(t, ahead, most, api.ErrFull)
		if x, err := Decode([]byte(ahead[:2*most]), most); len(x) != most || err != api.OK {
			t.Errorf("P14.1: Decode of %d runs of one: %x, %v", most, x, err)
		}
	}
}

// A length that is huge, with little room and with nearly enough; sums that would wrap, too.
func TestHugeLengths(t *testing.T) {
	for _, length := range huge {
		for _, most := range append([]int{0, 1, 8, 1000, 1 << 20, length / 2, length - 1}, below...) {
			refuses(t, told(length, 'a'), most, api.ErrFull)
			refuses(t, told(length, 0)+"\x02b", most, api.ErrFull)
			refuses(t, told(length, 'a')+"\x00", most, api.ErrFull)
		}
		refuses(t, "\x02a"+told(length, 1), length, api.ErrFull)
		refuses(t, "\x04a\x02\x01"+told(length, 1), length+2-length%2, api.ErrFull)
		refuses(t, told(length, 'a')+"\x02\x01", length, api.ErrFull)
		refuses(t, told(length, 'a')+told(math.MaxInt, 1), math.MaxInt, api.ErrFull)
		refuses(t, "\x02a"+told(math.MaxInt, 1), math.MaxInt, api.ErrFull)
		refuses(t, told(length, 'a')+told(math.MaxInt, 1)+told(math.MaxInt, 1), math.MaxInt, api.ErrFull)
	}
}

// With much room what stands behind a huge run counts as ever.
func TestHugeLengthWithMuchRoom(t *testing.T) {
	for _, length := range huge {
		for _, s := range []string{"\x00b", "\x01b", "\x02", "\x02\x00", "\x80", "\x80\x00b"} {
			refuses(t, told(length, 'a')+s, math.MaxInt, api.ErrForm)
			refuses(t, told(length, 'a')+s, length, api.ErrForm)
		}
	}
}

// P0.1: of presses that no memory holds nothing is promised, but that the call ends.
func TestBeyondMemory(t *testing.T) {
	for _, length := range huge[1:] {
		refuses(t, told(length, 'a'), math.MaxInt, api.ErrFull)
		refuses(t, told(length, 'a'), length, api.ErrFull)
	}
	refuses(t, told(1<<30, 'a')+told(1<<30, 1), 1<<31, api.ErrFull)
}

// A long list in few bytes.
func TestDecodeOfALongList(t *testing.T) {
	const half = 1 << 22
	s := told(half, 'a') + told(half, 3)
	want := strings.Repeat("a", half) + strings.Repeat("b", half)
	for _, most := range []int{2 * half, 2*half + 1, math.MaxInt} {
		if x, err := Decode([]byte(s), most); string(x) != want || err != api.OK {
			t.Errorf("P14.1: Decode of %x: %d presses, %v", s, len(x), err)
		}
	}
	refuses(t, s, 2*half-1, api.ErrFull)
}

// scribble writes over a list and over its spare room.
func scribble(b []byte) {
	b = b[:cap(b)]
	for i := range b {
		b[i] ^= 0x5a
	}
}

// calls are both functions, each as one of a list.
func calls() map[string]func(b []byte) []byte {
	return map[string]func(b []byte) []byte{
		"Encode": Encode,
		"Decode": func(b []byte) []byte {
			x, _ := Decode(b, 100)
			return x
		},
	}
}

// P0.3: what a call answered is the caller's.
func TestAnswersAreTheCallers(t *testing.T) {
	for name, call := range calls() {
		for _, s := range []string{"", "\x02\x00", "\x02a", "\x06a\x02\x03\x04\xff", "\x80\x01x", "\x02a\x02\x03\x02\x01\x02\x07\x02\x01"} {
			first, second := call([]byte(s)), call([]byte(s))
			kept := bytes.Clone(second)
			scribble(first)
			_ = append(first, "zzzz"...)
			if !bytes.Equal(second, kept) {
				t.Errorf("P0.3: two answers of %s of %x share memory", name, s)
			}
			if third := call([]byte(s)); !bytes.Equal(third, kept) {
				t.Errorf("P0.3: %s of %x is %x behind a write into an answer, not %x", name, s, third, kept)
			}
		}
	}
}

// P0.3: what is handed in is neither changed nor kept, its spare room neither.
func TestHandedInIsTheCallers(t *testing.T) {
	for name, call := range calls() {
		for _, s := range []string{"", "\x02\x00", "\x02a", "aaaa", "\x06a\x02\x03\x04\xff", "\x02a\x02\x00", "\x80", "\xfe\x7fa"} {
			for _, room := range []int{0, 1, 64} {
				whole := append([]byte(s), bytes.Repeat([]byte{'s'}, room)...)
				b, all := whole[:len(s)], bytes.Clone(whole)
				got := call(b)
				kept := bytes.Clone(got)
				if !bytes.Equal(whole, all) {
					t.Errorf("P0.3: %s of %x changed what it was handed: %x", name, s, whole)
				}
				scribble(whole)
				if !bytes.Equal(got, kept) {
					t.Errorf("P0.3: %s of %x shares what it was handed", name, s)
				}
				scribble(got)
				if want := call([]byte(s)); !bytes.Equal(want, kept) {
					t.Errorf("P0.5: %s of %x: %x, not %x", name, s, want, kept)
				}
			}
		}
	}
}

// P0.5: calls know nothing of each other.
func TestCallsBesideEachOther(t *testing.T) {
	var lists, encoded [][]byte
	for i := range 200 {
		lists = append(lists, bytes.Repeat([]byte{byte(i % 7), byte(i)}, i%9))
		encoded = append(encoded, Encode(lists[i]))
		refuses(t, "\x02a\x02\x00", 9, api.ErrForm)
		refuses(t, "\x7ea", 9, api.ErrFull)
	}
	for i, b := range encoded {
		if x, err := Decode(b, 18); !bytes.Equal(x, lists[i]) || err != api.OK || string(b) != encode(lists[i]) {
			t.Errorf("P0.5: list %d: %x, %x, %v", i, b, x, err)
		}
	}
}
