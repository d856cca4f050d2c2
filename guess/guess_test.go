package guess

import (
	"bytes"
	"fmt"
	"math"
	"slices"
	"testing"

	"quintain/api"
	"quintain/predict"
	"quintain/queue"
)

// above: numbers far above each frame's and each value's, those too that come to one of them when they lose their upper bits.
var above = []int{
	1<<16 - 1, 1 << 16, 1<<16 + 1, 1<<16 + 5, 1<<24 + 7, math.MaxInt32, 1 << 31, 1 << 32, 1<<32 + 1, 1<<32 + 5, 1<<32 + 999, 1 << 40, 1<<62 + 3, math.MaxInt - 1000, math.MaxInt - 1, math.MaxInt,
}

// below: numbers below 0, those too that come to a frame's or a value's when they wrap or lose their upper bits.
var below = []int{
	-1, -2, -3, -254, -255, -256, -257, -511, -512, -999, -1000, -1001, -1 << 16, math.MinInt32, math.MinInt32 + 1, -1 << 32, -1<<32 + 1, -1<<32 + 5, -1 << 40, math.MinInt + 1000, math.MinInt + 1, math.MinInt,
}

// rs are numbers of guesses that may be: at each turn of the 256, beside it and far beyond.
var rs = slices.Concat([]int{0, 1, 2, 3, 97, 128, 254, 255, 256, 257, 258, 510, 511, 512, 513, 767, 768, 1000, 1001, 25600, 25601}, above)

// noise gives numbers without a pattern that is short, always the same of one seed.
type noise uint32

func (n *noise) next(below int) int {
	*n = 1664525**n + 1013904223
	return int(uint64(*n^*n>>13) * uint64(below) >> 32)
}

// bytes are count bytes, each one of so many values that lie apart.
func (n *noise) bytes(count, kinds int) []byte {
	b := make([]byte, count)
	for i := range b {
		b[i] = byte(n.next(kinds) * 255 / max(kinds-1, 1))
	}
	return b
}

func last() predict.By               { return predict.By{Kind: api.GLast} }
func markov(order int) predict.By    { return predict.By{Kind: api.GMarkov, Order: order} }
func table(list ...byte) predict.By  { return predict.By{Kind: api.GTable, Table: list} }
func drawnOf(text string) predict.By { return table([]byte(text)...) }

// all are guesses of each kind.
func all() []predict.By {
	n := noise(1000)
	return []predict.By{last(), markov(0), markov(1), markov(2), markov(3), table(0), table(9), table(255, 0, 1), table(n.bytes(257, 256)...), table(n.bytes(1000, 256)...)}
}

// noMay are guesses that may not be.
func noMay() []predict.By {
	return []predict.By{
		{}, {Kind: 4}, {Kind: -1}, {Kind: 256}, {Kind: 257}, {Kind: 1<<32 + 1}, {Kind: math.MinInt}, {Kind: math.MaxInt},
		{Kind: api.GLast, Order: 1}, {Kind: api.GLast, Order: -1}, {Kind: api.GLast, Table: []byte{1}},
		{Kind: api.GMarkov, Order: 4}, {Kind: api.GMarkov, Order: -1}, {Kind: api.GMarkov, Order: 256}, {Kind: api.GMarkov, Order: math.MaxInt}, {Kind: api.GMarkov, Order: math.MinInt}, {Kind: api.GMarkov, Order: 1, Table: []byte{1}},
		{Kind: api.GTable}, {Kind: api.GTable, Table: []byte{}}, {Kind: api.GTable, Table: make([]byte, 1001)}, {Kind: api.GTable, Order: 1, Table: []byte{1}},
	}
}

// queueOf is a queue of players that pressed just that.
func queueOf(t *testing.T, lines [][]byte) *queue.Queue {
	t.Helper()
	q := queue.New(len(lines), 0)
	for p, b := range lines {
		adds(t, q, p, b)
	}
	return q
}

// adds puts these presses behind the player's line.
func adds(t *testing.T, q *queue.Queue, p int, b []byte) {
	t.Helper()
	l := q.Line(p)
	if n, err := l.Put(l.Len(), b); n != len(b) || err != api.OK {
		t.Fatalf("P19.1: Put of %d presses of the player %d: %d, %v", len(b), p, n, err)
	}
}

// linesOf are what the players of a queue pressed.
func linesOf(q *queue.Queue) [][]byte {
	var lines [][]byte
	for p := range q.N() {
		lines = append(lines, q.Line(p).All())
	}
	return lines
}

// frontOf is how many frames are known of all, and the first player of whom no more are.
func frontOf(lines [][]byte) (front, first int) {
	front = 1001
	for p, line := range lines {
		if len(line) < front {
			front, first = len(line), p
		}
	}
	return front, first
}

// aheadOf: what the chapter says of Ahead, frame by frame and press by press.
func aheadOf(lines [][]byte, b predict.By, r, to int) [][]byte {
	if r < 0 || to > 1000 || !predict.May(b) {
		return nil
	}
	front, first := frontOf(lines)
	var frames [][]byte
	soFar := make([][]byte, len(lines))
	for p, line := range lines {
		soFar[p] = slices.Clone(line)
	}
	for f := front; f < to; f++ {
		var frame []byte
		for p := range lines {
			if f >= len(lines[p]) {
				guessed := predict.Chain(b, soFar[p], 1)[0]
				if r > 0 && f == front && p == first {
					guessed = predict.Rank(b, soFar[p], 256)[r%256]
				}
				soFar[p] = append(soFar[p], guessed)
			}
			frame = append(frame, soFar[p][f])
		}
		frames = append(frames, frame)
	}
	return frames
}

// same: both are the same frames.
func same(x, y [][]byte) bool { return slices.EqualFunc(x, y, bytes.Equal) }

// short tells frames so that many of them stay on a line.
func short(frames [][]byte) [][]byte { return frames[:min(len(frames), 12)] }

// holds: Ahead is as the chapter says, and the queue stays as it was.
func holds(t *testing.T, q *queue.Queue, b predict.By, r, to int) {
	t.Helper()
	lines := linesOf(q)
	got, want := Ahead(q, b, r, to), aheadOf(lines, b, r, to)
	if !same(got, want) {
		t.Fatalf("P19.1: Ahead by %d, %d, a table of %d, of %d to %d: %d frames %v, not %d %v", b.Kind, b.Order, len(b.Table), r, to, len(got), short(got), len(want), short(want))
	}
	if len(want) == 0 && got != nil {
		t.Fatalf("P19.1: Ahead by %d, %d, of %d to %d: %v, not nil", b.Kind, b.Order, r, to, got)
	}
	if !same(linesOf(q), lines) {
		t.Fatalf("P0.3, P19.1: Ahead by %d, %d, of %d to %d changed the queue", b.Kind, b.Order, r, to)
	}
}

// refuses: Ahead is nil.
func refuses(t *testing.T, q *queue.Queue, b predict.By, r, to int) {
	t.Helper()
	if got := Ahead(q, b, r, to); got != nil {
		t.Errorf("P19.1: Ahead by %d, %d, a table of %d, of %d to %d: %d frames %v, not nil", b.Kind, b.Order, len(b.Table), r, to, len(got), short(got))
	}
}

// What is told is written out: three players behind a delay of one frame, the last one the first that is not known.
func TestWrittenOut(t *testing.T) {
	q := queue.New(3, 1)
	adds(t, q, 0, []byte("aba"))
	adds(t, q, 1, []byte("x"))
	for _, x := range []struct {
		by    predict.By
		r, to int
		want  string
	}{
		{last(), 0, 1, `[]`},
		{last(), 0, 2, `["ax\x00"]`},
		{last(), 0, 5, `["ax\x00" "bx\x00" "ax\x00" "ax\x00"]`},
		{last(), 1, 5, `["ax\x01" "bx\x01" "ax\x01" "ax\x01"]`},
		{last(), 255, 3, `["ax\xff" "bx\xff"]`},
		{last(), 256, 3, `["ax\x00" "bx\x00"]`},
		{last(), 257, 3, `["ax\x01" "bx\x01"]`},
		{markov(1), 0, 6, `["ax\x00" "bx\x00" "ax\x00" "bx\x00" "ax\x00"]`},
		{markov(1), 2, 6, `["ax\x02" "bx\x02" "ax\x02" "bx\x02" "ax\x02"]`},
		{markov(0), 0, 6, `["ax\x00" "bx\x00" "ax\x00" "ax\x00" "ax\x00"]`},
		{drawnOf("klm"), 0, 6, `["axl" "bmm" "akk" "lll" "mmm"]`},
		{drawnOf("klm"), 1, 6, `["ax\x00" "bmm" "akk" "lll" "mmm"]`},
		{drawnOf("klm"), 2, 6, `["ax\x01" "bmm" "akk" "lll" "mmm"]`},
		{drawnOf("klm"), 256, 3, `["axl" "bmm"]`},
	} {
		if got := fmt.Sprintf("%q", Ahead(q, x.by, x.r, x.to)); got != x.want {
			t.Errorf("P19.1: Ahead by %d, %d, %q, of %d to %d: %s, not %s", x.by.Kind, x.by.Order, x.by.Table, x.r, x.to, got, x.want)
		}
	}
}

// The r-th press changes what is guessed behind it: the first player's line alone is told.
func TestTheChainGoesOn(t *testing.T) {
	for _, x := range []struct {
		by   predict.By
		r    int
		want string
	}{
		{markov(1), 0, "ababa"},
		{markov(1), 1, "bbbbb"},
		{markov(1), 2, "\x00\x00\x00\x00\x00"},
		{markov(1), 99, "cabab"},
		{markov(1), 99 + 256, "cabab"},
		{markov(2), 0, "acaba"},
		{markov(0), 1, "bbbbb"},
		{last(), 0, "bbbbb"},
		{last(), 1, "\x00\x00\x00\x00\x00"},
		{last(), 98, "aaaaa"},
		{drawnOf("wxyz"), 0, "yzwxy"},
		{drawnOf("wxyz"), 1, "bzwxy"},
		{drawnOf("wxyz"), 3, "\x01zwxy"},
	} {
		q := queueOf(t, [][]byte{[]byte("abacab"), []byte("mmmmmmmm")})
		var got []byte
		for _, frame := range Ahead(q, x.by, x.r, 11) {
			got = append(got, frame[0])
		}
		if string(got) != x.want {
			t.Errorf("P19.1: the guess %d by %d, %d, %q: %q, not %q", x.r, x.by.Kind, x.by.Order, x.by.Table, got, x.want)
		}
	}
}

// some are lines of n players without a pattern that is short: some known far, some not at all.
func some(n int, from *noise, longest int) [][]byte {
	lines := make([][]byte, n)
	for p := range lines {
		lines[p] = from.bytes(from.next(longest+1), 2+from.next(4))
	}
	return lines
}

func TestSecondReading(t *testing.T) {
	from := noise(19)
	for n := 2; n <= 8; n++ {
		for _, longest := range []int{0, 1, 4, 20, 60} {
			for range 3 {
				q := queueOf(t, some(n, &from, longest))
				for _, b := range all() {
					for _, r := range []int{0, 1, 2, 1 + from.next(255), 255, 256, 257 + from.next(1000)} {
						holds(t, q, b, r, q.Front()+from.next(90))
					}
				}
			}
		}
	}
}

// Queues of a delay, with a player that is known no further: it quit at once.
func TestDelays(t *testing.T) {
	from := noise(3)
	for n := 2; n <= 8; n++ {
		for delay := range 9 {
			q := queue.New(n, delay)
			for p := range n {
				if p != delay%n {
					adds(t, q, p, from.bytes(from.next(30), 3))
				}
			}
			for _, b := range all() {
				for _, r := range []int{0, 1, 7, 255, 256, 300} {
					holds(t, q, b, r, delay+1)
					holds(t, q, b, r, delay+24)
				}
			}
		}
	}
}

// Just made: nobody pressed anything.
func TestNobodyPressed(t *testing.T) {
	for n := 2; n <= 8; n++ {
		for _, delay := range []int{0, 1, 8} {
			q := queue.New(n, delay)
			for _, b := range all() {
				for _, r := range rs {
					holds(t, q, b, r, delay)
					holds(t, q, b, r, delay+1)
					holds(t, q, b, r, delay+12)
				}
			}
		}
	}
}

// One player's line stays as it was when that player quit; all others go on.
func TestOneHasQuit(t *testing.T) {
	from := noise(8)
	for n := 2; n <= 8; n++ {
		for quit := range n {
			q := queue.New(n, 2)
			adds(t, q, quit, from.bytes(5, 2))
			for tick := range 20 {
				for p := range n {
					if p != quit {
						adds(t, q, p, from.bytes(1, 3))
					}
				}
				b := all()[tick%len(all())]
				holds(t, q, b, tick%4, q.Line((quit+1)%n).Len())
				holds(t, q, b, tick*17, 40)
			}
		}
	}
}

// Each way in which three short lines may lie to each other.
func TestEachLay(t *testing.T) {
	for x := range 4 {
		for y := range 4 {
			for z := range 4 {
				q := queueOf(t, [][]byte{[]byte("aab")[:x], []byte("cdc")[:y], []byte("eff")[:z]})
				for _, b := range all() {
					for _, r := range []int{0, 1, 2, 100, 255, 256, 511} {
						for to := range 8 {
							holds(t, q, b, r, to)
						}
					}
				}
			}
		}
	}
}

// Each player in turn is the one whose frame Front alone is not known: all of it is known up to that player.
func TestAllButOneKnown(t *testing.T) {
	for n := 2; n <= 8; n++ {
		for one := range n {
			lines := make([][]byte, n)
			for p := range lines {
				lines[p] = bytes.Repeat([]byte{byte(100 + p)}, 9)
			}
			lines[one] = []byte{50, 51, 50}
			q := queueOf(t, lines)
			for _, b := range all() {
				rank := predict.Rank(b, lines[one], 256)
				for _, r := range rs {
					frame := Ahead(q, b, r, 4)[0]
					for p, press := range frame {
						want := byte(100 + p)
						if p == one {
							want = rank[r%256]
						}
						if press != want {
							t.Fatalf("P19.1: of %d players, the player %d not known, the guess %d: the player %d presses %d, not %d", n, one, r, p, press, want)
						}
					}
					holds(t, q, b, r, 15)
				}
			}
		}
	}
}

// Of several players whose frame Front is not known the r-th is of the least number, and of none of the others.
func TestTheLeastNumberIsTheFirst(t *testing.T) {
	for n := 2; n <= 8; n++ {
		for known := range 1<<n - 1 {
			lines := make([][]byte, n)
			first := -1
			for p := range lines {
				lines[p] = []byte{byte(10 + p), byte(20 + p)}
				if known>>p&1 == 1 {
					lines[p] = append(lines[p], byte(30+p))
				} else if first < 0 {
					first = p
				}
			}
			q := queueOf(t, lines)
			want := make([]byte, n)
			for p, line := range lines {
				want[p] = line[len(line)-1]
			}
			if got := Ahead(q, last(), 0, 3); !same(got, [][]byte{want}) {
				t.Fatalf("P19.1: of %d players %b are known: %v, not %v", n, known, got, want)
			}
			want[first] = 0
			if got := Ahead(q, last(), 1, 4); !same(got, [][]byte{want, want}) {
				t.Fatalf("P19.1: of %d players %b are known: %v, not %v twice", n, known, got, want)
			}
		}
	}
}

func TestTo(t *testing.T) {
	from := noise(4)
	for _, lines := range [][][]byte{
		{from.bytes(5, 3), from.bytes(9, 3), from.bytes(5, 3)},
		{nil, from.bytes(700, 4)},
		{from.bytes(999, 5), from.bytes(998, 2), from.bytes(1000, 3)},
	} {
		q := queueOf(t, lines)
		front := q.Front()
		for _, b := range []predict.By{last(), markov(2), drawnOf("xyz")} {
			for _, r := range []int{0, 300} {
				whole := Ahead(q, b, r, 1000)
				if len(whole) != 1000-front {
					t.Errorf("P19.1: Ahead from %d to 1,000: %d frames", front, len(whole))
				}
				for to := range 1001 {
					if got := Ahead(q, b, r, to); !same(got, whole[:max(to-front, 0)]) || to <= front && got != nil {
						t.Fatalf("P19.1: Ahead from %d to %d: %d frames %v", front, to, len(got), short(got))
					}
				}
				for _, to := range slices.Concat(below, []int{0, front - 1, front, 1001, 1002, 1023, 1024, 1256, 2000}, above) {
					refuses(t, q, b, r, to)
				}
			}
		}
		for _, to := range []int{front + 1, front + 2, 999, 1000} {
			holds(t, q, markov(1), 0, to)
			holds(t, q, markov(1), 3, to)
		}
	}
}

// Lines that are known beyond to: no more of them is told.
func TestKnownBeyond(t *testing.T) {
	from := noise(6)
	q := queueOf(t, [][]byte{from.bytes(1000, 9), from.bytes(3, 9), from.bytes(400, 9)})
	for _, b := range all() {
		for to := range 12 {
			holds(t, q, b, 0, to)
			holds(t, q, b, 5, to)
		}
		holds(t, q, b, 2, 399)
		holds(t, q, b, 2, 401)
	}
}

// Full lines: there is no frame behind them.
func TestFull(t *testing.T) {
	from := noise(12)
	lines := [][]byte{from.bytes(1000, 3), from.bytes(999, 3), from.bytes(1000, 3)}
	q := queueOf(t, lines)
	for _, b := range all() {
		for _, r := range rs {
			holds(t, q, b, r, 1000)
			refuses(t, q, b, r, 999)
		}
	}
	adds(t, q, 1, []byte{7})
	for _, b := range all() {
		for _, to := range slices.Concat([]int{0, 999, 1000, 1001}, below, above) {
			refuses(t, q, b, 0, to)
			refuses(t, q, b, 1, to)
		}
	}
}

// Far ahead, with all that is guessed in between: guesses of 2 and of 8 players.
func TestFarAhead(t *testing.T) {
	from := noise(99)
	for _, n := range []int{2, 8} {
		q := queueOf(t, some(n, &from, 200))
		for _, b := range all() {
			holds(t, q, b, 0, 1000)
			holds(t, q, b, 4, 1000)
		}
	}
}

func TestR(t *testing.T) {
	q := queueOf(t, [][]byte{[]byte("abcabca"), []byte("abcab"), []byte("xyzzy")})
	for _, b := range all() {
		plain := Ahead(q, b, 0, 9)
		rank := predict.Rank(b, []byte("abcab"), 256)
		seen := map[byte]int{}
		for r := range 520 {
			got := Ahead(q, b, r, 9)
			if got[0][1] != rank[r%256] {
				t.Fatalf("P19.1: the guess %d: %d, not %d", r, got[0][1], rank[r%256])
			}
			for p := range 3 {
				for i := range got {
					if p != 1 && got[i][p] != plain[i][p] {
						t.Fatalf("P19.1: the guess %d: the player %d presses %d, not %d", r, p, got[i][p], plain[i][p])
					}
				}
			}
			if r >= 256 && !same(got, Ahead(q, b, r-256, 9)) {
				t.Fatalf("P19.1: the guess %d is not that of %d", r, r-256)
			}
			seen[got[0][1]]++
		}
		if len(seen) != 256 {
			t.Errorf("P19.1: the guesses are %d values", len(seen))
		}
		for _, r := range rs {
			holds(t, q, b, r, 9)
		}
		for _, r := range below {
			refuses(t, q, b, r, 9)
			refuses(t, q, b, r, 1000)
		}
	}
}

func TestGuessesThatMayNotBe(t *testing.T) {
	for _, b := range noMay() {
		for _, q := range []*queue.Queue{nil, new(queue.Queue), queue.New(2, 0), queue.New(8, 8), queueOf(t, [][]byte{[]byte("ab"), []byte("c")})} {
			for _, r := range []int{-1, 0, 1, 255, 256, math.MaxInt} {
				for _, to := range []int{-1, 0, 1, 2, 9, 1000, 1001} {
					refuses(t, q, b, r, to)
				}
			}
		}
	}
}

// Without players there is nobody to guess of.
func TestNoPlayers(t *testing.T) {
	for _, q := range []*queue.Queue{nil, new(queue.Queue)} {
		for _, b := range all() {
			for _, r := range slices.Concat(below, rs) {
				for _, to := range []int{math.MinInt, -1, 0, 1, 2, 999, 1000, 1001, math.MaxInt} {
					refuses(t, q, b, r, to)
				}
			}
		}
	}
}

func TestDiffers(t *testing.T) {
	queues := []*queue.Queue{nil, queue.New(2, 0), queue.New(8, 8), queueOf(t, [][]byte{[]byte("ab"), []byte("abc")})}
	for _, q := range queues {
		for _, b := range slices.Concat(all(), noMay()) {
			for r := -600; r <= 600; r++ {
				if got, want := Differs(q, b, r), 0 < r && r < 256; got != want {
					t.Errorf("P19.1: Differs of %d: %t", r, got)
				}
			}
			for _, r := range slices.Concat(below, above) {
				if Differs(q, b, r) {
					t.Errorf("P19.1: Differs of %d", r)
				}
			}
		}
	}
	// And so it guesses otherwise in that frame.
	for _, q := range queues[1:] {
		for _, b := range all() {
			to := q.Front() + 1
			for r := range 257 {
				if got := !same(Ahead(q, b, r, to), Ahead(q, b, 0, to)); got != Differs(q, b, r) {
					t.Errorf("P19.1: the guess %d is another one: %t, Differs: %t", r, got, !got)
				}
			}
		}
	}
}

// scribble writes over a list and its spare room.
func scribble(b []byte) {
	for i := range b[:cap(b)] {
		b[:cap(b)][i] ^= 0x5a
	}
}

func TestAnswersAreNew(t *testing.T) {
	from := noise(2)
	q := queueOf(t, [][]byte{from.bytes(9, 3), from.bytes(4, 3), from.bytes(6, 3)})
	lines := linesOf(q)
	for _, b := range all() {
		for _, r := range []int{0, 1, 255} {
			kept, want := Ahead(q, b, r, 20), aheadOf(lines, b, r, 20)
			written := Ahead(q, b, r, 20)
			for i, row := range written {
				scribble(row)
				if !same(written[i+1:], want[i+1:]) {
					t.Fatalf("P0.3, P19.1: who writes into the row %d changes those behind it", i)
				}
			}
			for i := len(written) - 1; i >= 0; i-- {
				scribble(written[i])
				if !same(written[:i], aheadScribbled(want[:i])) {
					t.Fatalf("P0.3, P19.1: who writes into the row %d changes those ahead of it", i)
				}
			}
			spare := written[:cap(written)]
			for i := range spare {
				spare[i] = []byte("zzz")
			}
			if !same(kept, want) || !same(linesOf(q), lines) {
				t.Fatalf("P0.3, P19.1: who writes into an answer changes another one, or the queue")
			}
			holds(t, q, b, r, 20)
		}
	}
}

// aheadScribbled are these frames once written over.
func aheadScribbled(frames [][]byte) [][]byte {
	var over [][]byte
	for _, row := range frames {
		row = slices.Clone(row)
		scribble(row)
		over = append(over, row)
	}
	return over
}

func TestTablesStay(t *testing.T) {
	room := []byte("xyz--------------------")
	b := predict.By{Kind: api.GTable, Table: room[:3]}
	q := queueOf(t, [][]byte{[]byte("ab"), []byte("c")})
	for _, r := range slices.Concat(below, rs) {
		for _, to := range []int{-1, 0, 1, 2, 20, 1000, 1001} {
			Ahead(q, b, r, to)
			Differs(q, b, r)
		}
	}
	if string(room) != "xyz--------------------" {
		t.Errorf("P0.3, P19.1: the table is %q", room)
	}
	if !same(linesOf(q), [][]byte{[]byte("ab"), []byte("c")}) || q.Front() != 1 {
		t.Errorf("P0.3, P19.1: the queue is of %q", linesOf(q))
	}
}

// A table isn't kept: what becomes of it changes no answer that is there already, and each answer is of the table as it is then.
func TestTablesAreNotKept(t *testing.T) {
	list := []byte("xyz")
	b := predict.By{Kind: api.GTable, Table: list}
	q := queueOf(t, [][]byte{[]byte("ab"), []byte("c")})
	frames := Ahead(q, b, 1, 9)
	want := aheadOf(linesOf(q), b, 1, 9)
	scribble(list)
	if !same(frames, want) {
		t.Errorf("P0.3, P19.1: %q, not %q", frames, want)
	}
	holds(t, q, b, 1, 9)
	scribble(list)
	holds(t, q, b, 1, 9)
}

// Presses that come between two answers change the second one alone, and each answer is the same again.
func TestLinesGrow(t *testing.T) {
	from := noise(21)
	q := queue.New(4, 1)
	for tick := range 120 {
		b, r := all()[tick%len(all())], tick*5%300
		frames := Ahead(q, b, r, 150)
		want := aheadOf(linesOf(q), b, r, 150)
		adds(t, q, from.next(4), from.bytes(1+from.next(2), 3))
		if !same(frames, want) {
			t.Fatalf("P0.3, P19.1: a press changes what was told ahead of it")
		}
		holds(t, q, b, r, 150)
		if !same(Ahead(q, b, r, 150), Ahead(q, b, r, 150)) {
			t.Fatalf("P0.5, P19.1: asked again it is another answer")
		}
	}
}

func TestNilAndEmptyTables(t *testing.T) {
	q := queueOf(t, [][]byte{[]byte("aba"), []byte("c")})
	for order := range 4 {
		b := markov(order)
		b.Table = []byte{}
		if !same(Ahead(q, b, 1, 9), Ahead(q, markov(order), 1, 9)) {
			t.Errorf("P0.4, P19.1: nil and empty tables differ")
		}
	}
}
