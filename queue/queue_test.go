package queue

import (
	"bytes"
	"fmt"
	"math"
	"slices"
	"testing"

	"quintain/api"
	"quintain/input"
)

// above: numbers above each player's and each frame's, those too that come to one of them when they lose their upper bits.
var above = []int{
	1001, 1002, 1023, 1024, 1<<16 - 1, 1 << 16, 1<<16 + 5, math.MaxInt32, 1 << 31, 1 << 32, 1<<32 + 1, 1<<32 + 7, 1 << 40, 1<<62 + 3, math.MaxInt - 1000, math.MaxInt - 1, math.MaxInt,
}

// below: numbers below 0, those too that come to a player's or a frame's when they wrap or lose their upper bits.
var below = []int{
	-1, -2, -7, -8, -9, -255, -256, -999, -1000, -1001, -1 << 16, math.MinInt32, math.MinInt32 - 1, -1 << 32, -1<<32 + 1, -1<<32 + 5, -1 << 40, math.MinInt + 1000, math.MinInt + 1, math.MinInt,
}

// noise gives numbers without a pattern that is short, always the same of one seed.
type noise uint32

func (n *noise) next(below int) int {
	*n = 1664525**n + 1013904223
	return int(uint64(*n^*n>>13) * uint64(below) >> 32)
}

func (n *noise) bytes(count int) []byte {
	b := make([]byte, count)
	for i := range b {
		b[i] = byte(n.next(256))
	}
	return b
}

// some are count presses of a player, none of them 0, that go on differently from each other player's.
func some(player, count int) []byte {
	b := make([]byte, count)
	for i := range b {
		b[i] = byte(1 + (player*31+i*(player+1))%255)
	}
	return b
}

// adds puts these presses behind the player's line.
func adds(t *testing.T, q *Queue, p int, b []byte) {
	t.Helper()
	l := q.Line(p)
	if n, err := l.Put(l.Len(), b); n != len(b) || err != api.OK {
		t.Fatalf("P17.1: Put of %d presses of the player %d: %d, %v", len(b), p, n, err)
	}
}

// queueOf is a queue of players that pressed just that.
func queueOf(t *testing.T, lines [][]byte) *Queue {
	t.Helper()
	q := New(len(lines), 0)
	for p, b := range lines {
		adds(t, q, p, b)
	}
	return q
}

// frontOf is what the chapter says of Front: the frames that are known of all.
func frontOf(lines [][]byte) int {
	for f := 0; ; f++ {
		for _, b := range lines {
			if len(b) == f {
				return f
			}
		}
	}
}

// tells: Joint and Known of that frame are as the chapter says of these lines.
func tells(t *testing.T, q *Queue, lines [][]byte, f int) {
	t.Helper()
	var joint []byte
	var known []bool
	for _, b := range lines {
		isIn := f >= 0 && f < len(b)
		known = append(known, isIn)
		if isIn {
			joint = append(joint, b[f])
		}
	}
	isJoint := len(joint) == len(lines)
	if !isJoint {
		joint = nil
	}
	if got, ok := q.Joint(f); !bytes.Equal(got, joint) || ok != isJoint {
		t.Fatalf("P17.1: Joint(%d): %v, %t, not %v, %t", f, got, ok, joint, isJoint)
	}
	if got := q.Known(f); !slices.Equal(got, known) {
		t.Fatalf("P17.1: Known(%d): %v, not %v", f, got, known)
	}
}

// edges are the frames near each line's end and near the Front, and those that are never there.
func edges(lines [][]byte) []int {
	frames := append([]int{0, 999, 1000}, append(below, above...)...)
	for _, b := range lines {
		frames = append(frames, len(b)-2, len(b)-1, len(b), len(b)+1)
	}
	return frames
}

// holds: the queue is of just these lines, whatever it is asked.
func holds(t *testing.T, q *Queue, lines [][]byte) {
	t.Helper()
	if got := q.N(); got != len(lines) {
		t.Fatalf("P17.1: N: %d, not %d", got, len(lines))
	}
	for p, want := range lines {
		if l := q.Line(p); l == nil || l.Len() != len(want) || !bytes.Equal(l.All(), want) {
			t.Fatalf("P17.1: Line(%d) is of %v, not %v", p, l.All(), want)
		}
	}
	for _, p := range append([]int{len(lines), len(lines) + 1, 8, 9, 255, 256, 257}, append(below, above...)...) {
		if l := q.Line(p); l != nil {
			t.Fatalf("P17.1: Line(%d) of %d players is there", p, len(lines))
		}
	}
	if got := q.Front(); got != frontOf(lines) {
		t.Fatalf("P17.1: Front: %d, not %d", got, frontOf(lines))
	}
	for _, f := range edges(lines) {
		tells(t, q, lines, f)
	}
}

// holdsAll: holds, and each frame is asked too.
func holdsAll(t *testing.T, q *Queue, lines [][]byte) {
	t.Helper()
	holds(t, q, lines)
	for f := range 1001 {
		tells(t, q, lines, f)
	}
}

// noughts are the lines of n players that were just made with that delay.
func noughts(n, delay int) [][]byte {
	lines := make([][]byte, n)
	for p := range lines {
		lines[p] = make([]byte, delay)
	}
	return lines
}

func TestNewPlayers(t *testing.T) {
	for n := 2; n <= 8; n++ {
		holdsAll(t, New(n, 0), noughts(n, 0))
	}
	for _, n := range append([]int{0, 1}, below...) {
		holds(t, New(n, 0), noughts(2, 0))
	}
	for _, n := range append([]int{9, 10, 15, 16, 255, 256, 257, 258, 1000}, above...) {
		holds(t, New(n, 0), noughts(8, 0))
	}
}

func TestNewDelay(t *testing.T) {
	for n := 2; n <= 8; n++ {
		for delay := range 9 {
			holdsAll(t, New(n, delay), noughts(n, delay))
		}
		for _, delay := range below {
			holds(t, New(n, delay), noughts(n, 0))
		}
		for _, delay := range append([]int{9, 10, 16, 255, 256, 257, 264, 1000}, above...) {
			holds(t, New(n, delay), noughts(n, 8))
		}
	}
}

// Each end of the one with each end of the other, so that neither is taken for the other.
func TestNewBothEnds(t *testing.T) {
	for _, n := range []struct{ told, is int }{{-1, 2}, {0, 2}, {1, 2}, {2, 2}, {3, 3}, {7, 7}, {8, 8}, {9, 8}, {math.MinInt, 2}, {math.MaxInt, 8}} {
		for _, delay := range []struct{ told, is int }{{-1, 0}, {0, 0}, {1, 1}, {7, 7}, {8, 8}, {9, 8}, {math.MinInt, 0}, {math.MaxInt, 8}} {
			holds(t, New(n.told, delay.told), noughts(n.is, delay.is))
		}
	}
}

// What is told is written out: three players behind a delay of two frames.
func TestWrittenOut(t *testing.T) {
	q := New(3, 2)
	told := func() string {
		text := fmt.Sprint(q.Front())
		for f := range 6 {
			joint, ok := q.Joint(f)
			text += fmt.Sprint(" ", joint, ok, q.Known(f))
		}
		return text
	}
	const (
		none    = " [] false [false false false]"
		noughts = " [0 0 0] true [true true true]"
	)
	for _, x := range []struct {
		player int
		press  string
		want   string
	}{
		{0, "", "2" + noughts + noughts + none + none + none + none},
		{1, "k", "2" + noughts + noughts + " [] false [false true false]" + none + none + none},
		{1, "l", "2" + noughts + noughts + " [] false [false true false] [] false [false true false]" + none + none},
		{0, "a", "2" + noughts + noughts + " [] false [true true false] [] false [false true false]" + none + none},
		{2, "xyz", "3" + noughts + noughts + " [97 107 120] true [true true true] [] false [false true true] [] false [false false true]" + none},
		{0, "b", "4" + noughts + noughts + " [97 107 120] true [true true true] [98 108 121] true [true true true] [] false [false false true]" + none},
		{0, "cd", "4" + noughts + noughts + " [97 107 120] true [true true true] [98 108 121] true [true true true] [] false [true false true] [] false [true false false]"},
		{1, "\x00", "5" + noughts + noughts + " [97 107 120] true [true true true] [98 108 121] true [true true true] [99 0 122] true [true true true] [] false [true false false]"},
	} {
		adds(t, q, x.player, []byte(x.press))
		for range 2 {
			if got := told(); got != x.want {
				t.Errorf("P17.1: behind %q of the player %d: %s, not %s", x.press, x.player, got, x.want)
			}
		}
	}
}

// Lines that grow at different paces, with all told after each press.
func TestPaces(t *testing.T) {
	for n := 2; n <= 8; n++ {
		for delay := range 3 {
			q, lines := New(n, delay), noughts(n, delay)
			for tick := range 60 {
				for p := range n {
					if tick%(1+(p*3+n)%5) != 0 {
						continue
					}
					b := byte(tick*7 + p*41 + 1)
					if err := q.Line(p).Add(b); err != api.OK {
						t.Fatalf("P17.1: Add of the player %d: %v", p, err)
					}
					lines[p] = append(lines[p], b)
					holds(t, q, lines)
				}
			}
			holdsAll(t, q, lines)
		}
	}
}

// One player's line behind all others, and one ahead of them; each player in turn.
func TestBehindAndAhead(t *testing.T) {
	for n := 2; n <= 8; n++ {
		for p := range n {
			for _, x := range []struct{ one, others int }{{0, 5}, {4, 5}, {5, 5}, {6, 5}, {5, 0}, {1, 1000}, {1000, 1}, {999, 1000}, {1000, 999}, {1000, 1000}} {
				lines := make([][]byte, n)
				for other := range lines {
					lines[other] = some(other, x.others)
				}
				lines[p] = some(p, x.one)
				q := queueOf(t, lines)
				holds(t, q, lines)
				if got := q.Front(); got != min(x.one, x.others) {
					t.Errorf("P17.1: Front of %d with %d others of %d: %d", x.one, n-1, x.others, got)
				}
			}
		}
	}
}

// Each way in which three short lines may lie to each other.
func TestEachLay(t *testing.T) {
	for a := range 5 {
		for b := range 5 {
			for c := range 5 {
				lines := [][]byte{some(0, a), some(1, b), some(2, c)}
				q := queueOf(t, lines)
				holds(t, q, lines)
				if got := q.Front(); got != min(a, b, c) {
					t.Errorf("P17.1: Front of %d, %d, %d: %d", a, b, c, got)
				}
				for f := -1; f < 7; f++ {
					tells(t, q, lines, f)
				}
			}
		}
	}
}

// Up to the last frame that a line may have.
func TestFull(t *testing.T) {
	lines := [][]byte{some(0, 1000), some(1, 998), some(2, 999)}
	q := queueOf(t, lines)
	for front := 998; front < 1000; front++ {
		holds(t, q, lines)
		for p := range lines {
			if len(lines[p]) == front {
				adds(t, q, p, []byte{byte(p + 1)})
				lines[p] = append(lines[p], byte(p+1))
				holds(t, q, lines)
			}
		}
	}
	holdsAll(t, q, lines)
	for p := range lines {
		if err := q.Line(p).Add(7); err != api.ErrFull {
			t.Errorf("P17.1: Add to a full line: %v", err)
		}
	}
	if got := q.Front(); got != 1000 {
		t.Errorf("P17.1: Front of full lines: %d", got)
	}
	holds(t, q, lines)
}

// A press of 0 is known as each other one is.
func TestNoughtIsAPress(t *testing.T) {
	lines := [][]byte{{0, 0, 5}, {0, 3}}
	q := queueOf(t, lines)
	holds(t, q, lines)
	if got, ok := q.Joint(0); !ok || !bytes.Equal(got, []byte{0, 0}) {
		t.Errorf("P17.1: Joint of noughts: %v, %t", got, ok)
	}
	if got, ok := q.Joint(1); !ok || !bytes.Equal(got, []byte{0, 3}) {
		t.Errorf("P17.1: Joint of a nought: %v, %t", got, ok)
	}
	for b := range 256 {
		adds(t, q, 1, []byte{byte(b)})
		lines[1] = append(lines[1], byte(b))
		adds(t, q, 0, []byte{byte(255 - b)})
		lines[0] = append(lines[0], byte(255-b))
	}
	holdsAll(t, q, lines)
}

// A frame that is not joint has no presses; what is known of it is told nonetheless.
func TestNotJointIsKnown(t *testing.T) {
	lines := [][]byte{some(0, 6), some(1, 2), some(2, 4), some(3, 9)}
	q := queueOf(t, lines)
	for _, x := range []struct {
		f    int
		want []bool
	}{
		{1, []bool{true, true, true, true}}, {2, []bool{true, false, true, true}}, {3, []bool{true, false, true, true}}, {4, []bool{true, false, false, true}},
		{6, []bool{false, false, false, true}}, {8, []bool{false, false, false, true}}, {9, make([]bool, 4)}, {-1, make([]bool, 4)},
		{math.MinInt, make([]bool, 4)}, {math.MaxInt, make([]bool, 4)}, {1<<32 + 1, make([]bool, 4)},
	} {
		joint, ok := q.Joint(x.f)
		if ok != (x.f == 1) || !ok && joint != nil {
			t.Errorf("P17.1: Joint(%d): %v, %t", x.f, joint, ok)
		}
		if got := q.Known(x.f); !slices.Equal(got, x.want) {
			t.Errorf("P17.1: Known(%d): %v, not %v", x.f, got, x.want)
		}
	}
}

// A line that was handed out early is the player's for ever, and no other player's.
func TestLineIsTheQueues(t *testing.T) {
	for n := 2; n <= 8; n++ {
		q, lines := New(n, 1), noughts(n, 1)
		var handed []*input.Line
		for p := range n {
			handed = append(handed, q.Line(p))
		}
		for p, l := range handed {
			for other := range p {
				if l == handed[other] {
					t.Errorf("P17.1: the players %d and %d have one line", p, other)
				}
			}
		}
		for round := range 4 {
			for p, l := range handed {
				if err := l.Add(byte(p + round*8 + 1)); err != api.OK {
					t.Fatalf("P17.1: Add: %v", err)
				}
				lines[p] = append(lines[p], byte(p+round*8+1))
				holds(t, q, lines)
				fresh := some(p, p%3)
				if put, err := l.Put(l.Len()-1, append([]byte{99}, fresh...)); put != len(fresh) || err != api.OK {
					t.Fatalf("P17.1: Put: %d, %v", put, err)
				}
				lines[p] = append(lines[p], fresh...)
				holds(t, q, lines)
				if q.Line(p) != l {
					t.Errorf("P17.1: Line(%d) is another one by now", p)
				}
			}
		}
	}
}

// What a line refused, and what it knew already, changes nothing.
func TestRefused(t *testing.T) {
	lines := [][]byte{some(0, 5), some(1, 3)}
	q := queueOf(t, lines)
	for p := range lines {
		for _, first := range []int{-1, len(lines[p]) + 1, math.MinInt, math.MaxInt, 0} {
			if n, _ := q.Line(p).Put(first, []byte{9, 9, 9}); n != 0 {
				t.Errorf("P17.1: Put(%d) of the player %d: %d", first, p, n)
			}
			holds(t, q, lines)
		}
	}
}

// P0.3: what Joint and Known handed back is the caller's, its spare room too.
func TestAnswersAreTheCallers(t *testing.T) {
	for n := 2; n <= 8; n++ {
		lines := make([][]byte, n)
		for p := range lines {
			lines[p] = some(p, 4+p)
		}
		q := queueOf(t, lines)
		for f := -1; f <= n+4; f++ {
			joint, _ := q.Joint(f)
			second, _ := q.Joint(f)
			kept := bytes.Clone(second)
			for i := range joint[:cap(joint)] {
				joint[:cap(joint)][i] ^= 0xa5
			}
			if !bytes.Equal(second, kept) {
				t.Errorf("P0.3: two answers of Joint(%d) share memory", f)
			}
			known, other := q.Known(f), q.Known(f)
			keptKnown := slices.Clone(other)
			for i := range known[:cap(known)] {
				known[:cap(known)][i] = !known[:cap(known)][i]
			}
			if !slices.Equal(other, keptKnown) {
				t.Errorf("P0.3: two answers of Known(%d) share memory", f)
			}
			_, _ = append(second, 7), append(other, true)
			holds(t, q, lines)
		}
		joint, _ := q.Joint(3)
		known := q.Known(4)
		kept, keptKnown := bytes.Clone(joint), slices.Clone(known)
		adds(t, q, 0, []byte{1, 2, 3})
		lines[0] = append(lines[0], 1, 2, 3)
		if !bytes.Equal(joint, kept) || !slices.Equal(known, keptKnown) {
			t.Errorf("P0.3: an answer changed with the lines")
		}
		holds(t, q, lines)
	}
}

// P0.5: queues know nothing of each other.
func TestManyQueues(t *testing.T) {
	var queues []*Queue
	var lines [][][]byte
	for i := range 21 {
		queues, lines = append(queues, New(2+i%7, i%9)), append(lines, noughts(2+i%7, i%9))
	}
	for round := range 10 {
		for i, q := range queues {
			p := (round*3 + i) % q.N()
			b := some(i+round, round%4+i%2)
			adds(t, q, p, b)
			lines[i][p] = append(lines[i][p], b...)
		}
	}
	for i, q := range queues {
		holdsAll(t, q, lines[i])
	}
}

// Many presses of all players, each held against the chapter's words.
func TestLongWay(t *testing.T) {
	for seed := range 30 {
		n := noise(seed)
		count, delay := 2+n.next(7), n.next(9)
		q, lines := New(count, delay), noughts(count, delay)
		for range 80 {
			p := n.next(count)
			b := n.bytes(min(n.next(33), 1000-len(lines[p])))
			back := n.next(min(len(lines[p]), 9) + 1)
			told := append(n.bytes(back), b...)
			if put, err := q.Line(p).Put(len(lines[p])-back, told); put != len(b) || err != api.OK {
				t.Fatalf("P17.1: Put: %d, %v", put, err)
			}
			lines[p] = append(lines[p], b...)
			holds(t, q, lines)
			tells(t, q, lines, n.next(1000))
		}
		holdsAll(t, q, lines)
	}
}

// A nil Queue has no players and knows nothing, however it is asked; one that New did not make neither.
func TestNoPlayers(t *testing.T) {
	for _, q := range []*Queue{nil, {}} {
		for range 2 {
			if got := q.N(); got != 0 {
				t.Errorf("P17.1: no players: N: %d", got)
			}
			if got := q.Front(); got != 0 {
				t.Errorf("P17.1: no players: Front: %d", got)
			}
			for _, x := range append([]int{0, 1, 2, 7, 8, 999, 1000}, append(below, above...)...) {
				if l := q.Line(x); l != nil {
					t.Errorf("P17.1: no players: Line(%d) is there", x)
				}
				if b, ok := q.Joint(x); b != nil || ok {
					t.Errorf("P17.1: no players: Joint(%d): %v, %t", x, b, ok)
				}
				if known := q.Known(x); known != nil {
					t.Errorf("P17.1: no players: Known(%d): %v", x, known)
				}
			}
		}
	}
}

// A player that is not there has a nil line, which refuses each press and changes no answer.
func TestNoSuchPlayer(t *testing.T) {
	lines := [][]byte{some(0, 4), some(1, 2), some(2, 3)}
	q := queueOf(t, lines)
	for _, p := range append([]int{3, 4, 8}, append(below, above...)...) {
		if l := q.Line(p); l != nil || l.Add(1) != api.ErrNone {
			t.Errorf("P17.1: Line(%d) is there", p)
		}
	}
	for p := range lines {
		if q.Line(p) == nil {
			t.Errorf("P17.1: Line(%d) isn't there", p)
		}
	}
	holds(t, q, lines)
}
