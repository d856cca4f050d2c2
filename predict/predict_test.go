package predict

import (
	"bytes"
	"math"
	"slices"
	"sort"
	"strings"
	"testing"

	"quintain/api"
)

// above: numbers far above each limit, those too that come to a number within it when they lose their upper bits.
var above = []int{
	1<<16 - 1, 1 << 16, 1<<16 + 1, 1<<16 + 3, math.MaxInt32, 1 << 31, 1 << 32, 1<<32 + 1, 1<<32 + 2, 1<<32 + 3, 1<<32 + 256, 1 << 40, 1<<62 + 3, math.MaxInt - 1000, math.MaxInt - 1, math.MaxInt,
}

// below: numbers below 0, those too that come to a number within a limit when they wrap or lose their upper bits.
var below = []int{
	-1, -2, -3, -4, -254, -255, -256, -257, -999, -1000, -1001, -1 << 16, math.MinInt32, math.MinInt32 + 1, -1 << 32, -1<<32 + 1, -1<<32 + 2, -1<<32 + 3, -1 << 40, math.MinInt + 1000, math.MinInt + 1, math.MinInt,
}

// ks are numbers of values for Rank: at its ends, beside them and far beyond.
var ks = slices.Concat([]int{0, 1, 2, 3, 100, 254, 255, 256, 257, 258, 512, 999, 1000, 1001}, above, below)

// ns are numbers of guesses for Chain: likewise.
var ns = slices.Concat([]int{0, 1, 2, 3, 255, 256, 257, 998, 999, 1000, 1001, 1002, 2000, 4096}, above, below)

// noise gives numbers without a pattern that is short, always the same of one seed.
type noise uint32

func (n *noise) next(below int) int {
	*n = 1664525**n + 1013904223
	return int(uint64(*n^*n>>13) * uint64(below) >> 32)
}

// bytes are count bytes, each one of so many values that lie apart.
func (n *noise) bytes(count, kinds int) []byte {
	b := make([]byte, count)
	for i := range b {
		b[i] = byte(n.next(kinds) * 255 / max(kinds-1, 1))
	}
	return b
}

// rises are count bytes that go on by a step from a first one.
func rises(count, first, step int) []byte {
	b := make([]byte, count)
	for i := range b {
		b[i] = byte(first + i*step)
	}
	return b
}

func last() By               { return By{Kind: api.GLast} }
func markov(order int) By    { return By{Kind: api.GMarkov, Order: order} }
func table(list ...byte) By  { return By{Kind: api.GTable, Table: list} }
func drawnOf(text string) By { return table([]byte(text)...) }

// all are guesses of each kind.
func all() []By {
	return []By{last(), markov(0), markov(1), markov(2), markov(3), table(0), table(9), table(255, 0), table(1, 0, 1), table(rises(256, 5, 7)...), table(rises(1000, 3, 11)...)}
}

// weightsOf: what the chapter says of the weights.
func weightsOf(b By, past []byte) [256]int {
	var weights [256]int
	if b.Kind != api.GMarkov || len(past) < b.Order {
		return weights
	}
	for i := b.Order; i <= len(past)-1; i++ {
		same := true
		for d := 1; d <= b.Order; d++ {
			same = same && past[i-d] == past[len(past)-d]
		}
		if same {
			weights[past[i]]++
		}
	}
	return weights
}

// rankOf: what the chapter says of Rank, all 256 of it.
func rankOf(b By, past []byte) []byte {
	lastOne := 0
	if len(past) > 0 {
		lastOne = int(past[len(past)-1])
	}
	drawnOne := -1
	if b.Kind == api.GTable {
		drawnOne = int(b.Table[len(past)%len(b.Table)])
	}
	weights := weightsOf(b, past)
	rank := rises(256, 0, 1)
	sort.Slice(rank, func(i, j int) bool {
		x, y := int(rank[i]), int(rank[j])
		switch {
		case x == drawnOne || y == drawnOne:
			return x == drawnOne && y != drawnOne
		case weights[x] != weights[y]:
			return weights[x] > weights[y]
		case x == lastOne || y == lastOne:
			return x == lastOne && y != lastOne
		}
		return x < y
	})
	return rank
}

// chainOf: what the chapter says of Chain.
func chainOf(b By, past []byte, n int) []byte {
	row := slices.Clone(past)
	for range n {
		row = append(row, rankOf(b, row)[0])
	}
	return row[len(past):]
}

// short tells bytes so that a long list stays on a line.
func short(b []byte) []byte { return b[:min(len(b), 40)] }

// holds: Rank and a Chain of n are as the chapter says.
func holds(t *testing.T, b By, past []byte, n int) {
	t.Helper()
	if got, want := Rank(b, past, 256), rankOf(b, past); !bytes.Equal(got, want) {
		t.Fatalf("P18.1: Rank of %d, %d, %v behind %d presses %v: %v, not %v", b.Kind, b.Order, short(b.Table), len(past), short(past), got, want)
	}
	if got, want := Chain(b, past, n), chainOf(b, past, n); !bytes.Equal(got, want) {
		t.Fatalf("P18.1: Chain of %d, %d, %v behind %d presses %v: %v, not %v", b.Kind, b.Order, short(b.Table), len(past), short(past), got, want)
	}
}

// refuses: of guesses that may not be there is nothing.
func refuses(t *testing.T, b By) {
	t.Helper()
	if May(b) {
		t.Errorf("P18.1: May of %d, %d, a table of %d", b.Kind, b.Order, len(b.Table))
	}
	for _, past := range [][]byte{nil, {}, {7}, []byte("abcabcab")} {
		for _, k := range ks {
			if got := Rank(b, past, k); got != nil {
				t.Errorf("P18.1: Rank of %d, %d, a table of %d, to %d: %v, not nil", b.Kind, b.Order, len(b.Table), k, got)
			}
		}
		for _, n := range ns {
			if got := Chain(b, past, n); got != nil {
				t.Errorf("P18.1: Chain of %d, %d, a table of %d, to %d: %v, not nil", b.Kind, b.Order, len(b.Table), n, got)
			}
		}
	}
}

// takes: of guesses that may be there is something.
func takes(t *testing.T, b By) {
	t.Helper()
	if !May(b) {
		t.Fatalf("P18.1: May not of %d, %d, a table of %d", b.Kind, b.Order, len(b.Table))
	}
	if got := Rank(b, nil, 256); len(got) != 256 {
		t.Errorf("P18.1: Rank of %d, %d, a table of %d: %v", b.Kind, b.Order, len(b.Table), got)
	}
	if got := Chain(b, nil, 3); len(got) != 3 {
		t.Errorf("P18.1: Chain of %d, %d, a table of %d: %v", b.Kind, b.Order, len(b.Table), got)
	}
}

func TestMay(t *testing.T) {
	if api.GLast != 1 || api.GMarkov != 2 || api.GTable != 3 {
		t.Fatal("P18.1: the kinds are 1 to 3")
	}
	takes(t, By{Kind: 1})
	takes(t, By{Kind: 1, Table: []byte{}})
	for order := range 4 {
		takes(t, By{Kind: 2, Order: order})
		takes(t, By{Kind: 2, Order: order, Table: make([]byte, 0, 9)})
	}
	for _, length := range []int{1, 2, 3, 4, 255, 256, 257, 512, 998, 999, 1000} {
		takes(t, By{Kind: 3, Table: make([]byte, length)})
		takes(t, By{Kind: 3, Table: make([]byte, length, length+1000)})
	}
}

func TestMayNotOfAKind(t *testing.T) {
	refuses(t, By{})
	for _, kind := range slices.Concat([]int{0, 4, 5, 255, 256, 257, 258, 259}, above, below) {
		refuses(t, By{Kind: kind})
		refuses(t, By{Kind: kind, Order: 1})
		refuses(t, By{Kind: kind, Table: []byte{1}})
	}
}

func TestMayNotOfAnOrder(t *testing.T) {
	for _, order := range slices.Concat([]int{4, 5, 8, 255, 256, 257, 258, 259, 1000}, above, below) {
		refuses(t, By{Kind: 1, Order: order})
		refuses(t, By{Kind: 2, Order: order})
		refuses(t, By{Kind: 3, Order: order, Table: []byte{1}})
	}
	for order := 1; order <= 3; order++ {
		refuses(t, By{Kind: 1, Order: order})
		refuses(t, By{Kind: 3, Order: order, Table: []byte{1}})
	}
}

func TestMayNotOfATable(t *testing.T) {
	for _, length := range []int{1, 2, 256, 999, 1000, 1001} {
		refuses(t, By{Kind: 1, Table: make([]byte, length)})
		for order := range 4 {
			refuses(t, By{Kind: 2, Order: order, Table: make([]byte, length)})
		}
	}
	for _, length := range []int{0, 1001, 1002, 1024, 1256, 2000, 1 << 16, 1<<16 + 1, 1<<16 + 256} {
		refuses(t, By{Kind: 3, Table: make([]byte, length)})
	}
	refuses(t, By{Kind: 3})
	refuses(t, By{Kind: 3, Table: make([]byte, 0, 10)})
}

func TestKnownRanks(t *testing.T) {
	for _, x := range []struct {
		by   By
		past string
		want string
	}{
		{last(), "", "\x00\x01\x02\x03"},
		{last(), "\x00", "\x00\x01\x02\x03"},
		{last(), "aaab", "b\x00\x01\x02"},
		{last(), "\x02\x02\x01", "\x01\x00\x02\x03"},
		{last(), "a\xff", "\xff\x00\x01\x02"},
		// Order 0: how often each was pressed.
		{markov(0), "", "\x00\x01\x02\x03"},
		{markov(0), "x", "x\x00\x01\x02"},
		{markov(0), "abacab", "abc\x00"},
		{markov(0), "abab", "ba\x00\x01"},
		{markov(0), "baba", "ab\x00\x01"},
		{markov(0), "cbaabcb", "bac\x00"},
		{markov(0), "bbaacc", "cab\x00"},
		{markov(0), "aab", "ab\x00\x01"},
		// Order 1: what came behind the last one.
		{markov(1), "", "\x00\x01\x02\x03"},
		{markov(1), "a", "a\x00\x01\x02"},
		{markov(1), "aa", "a\x00\x01\x02"},
		{markov(1), "ab", "b\x00\x01\x02"},
		{markov(1), "aba", "ba\x00\x01"},
		{markov(1), "abaca", "bca\x00"},
		{markov(1), "acabaa", "abc\x00"},
		{markov(1), "abacada", "bcda"},
		{markov(1), "adacaba", "bcda"},
		{markov(1), "azayaza", "zya\x00"},
		{markov(1), "aaba", "ab\x00\x01"},
		// Order 2.
		{markov(2), "ab", "b\x00\x01\x02"},
		{markov(2), "aba", "a\x00\x01\x02"},
		{markov(2), "abab", "ab\x00\x01"},
		{markov(2), "aaaa", "a\x00\x01\x02"},
		{markov(2), "aaabaa", "ab\x00\x01"},
		{markov(2), "abxabyabxab", "xyb\x00"},
		{markov(2), "xbyaab", "b\x00\x01\x02"},
		// Order 3.
		{markov(3), "abc", "c\x00\x01\x02"},
		{markov(3), "abcd", "d\x00\x01\x02"},
		{markov(3), "abca", "a\x00\x01\x02"},
		{markov(3), "abcabc", "ac\x00\x01"},
		{markov(3), "aaaa", "a\x00\x01\x02"},
		{markov(3), "xbczabc", "c\x00\x01\x02"},
		{markov(3), "abczabcyabczabc", "zyc\x00"},
		// The drawn one: its place is the next press's, round and round.
		{drawnOf("q"), "", "q\x00\x01\x02"},
		{drawnOf("q"), "a", "qa\x00\x01"},
		{drawnOf("q"), "aaab", "qb\x00\x01"},
		{drawnOf("q"), "aaq", "q\x00\x01\x02"},
		{drawnOf("qrs"), "", "q\x00\x01\x02"},
		{drawnOf("qrs"), "a", "ra\x00\x01"},
		{drawnOf("qrs"), "ab", "sb\x00\x01"},
		{drawnOf("qrs"), "abc", "qc\x00\x01"},
		{drawnOf("qrs"), "abcdefghij", "rj\x00\x01"},
		{drawnOf("\x00"), "\x01", "\x00\x01\x02\x03"},
		{drawnOf("\x01"), "", "\x01\x00\x02\x03"},
		{drawnOf("\xff\x02"), "\x02\x01", "\xff\x01\x00\x02"},
	} {
		if got := Rank(x.by, []byte(x.past), 4); string(got) != x.want {
			t.Errorf("P18.1: Rank of %d, %d, %q behind %q: %q, not %q", x.by.Kind, x.by.Order, x.by.Table, x.past, got, x.want)
		}
	}
}

func TestKnownChains(t *testing.T) {
	for _, x := range []struct {
		by   By
		past string
		want string
	}{
		{last(), "", "\x00\x00\x00\x00"},
		{last(), "ab", "bbbb"},
		{markov(0), "", "\x00\x00\x00\x00"},
		{markov(0), "aab", "aaaa"},
		{markov(0), "aabb", "bbbb"},
		{markov(1), "", "\x00\x00\x00\x00"},
		{markov(1), "ab", "bbbb"},
		{markov(1), "abca", "bcabca"},
		{markov(1), "aba", "baba"},
		// Of a tie the last one is the first, and wins each later one.
		{markov(1), "aaba", "aaaa"},
		{markov(2), "abcab", "cabcab"},
		{markov(2), "aabaa", "baabaa"},
		{markov(2), "abc", "cccc"},
		{markov(3), "abcdabc", "dabcda"},
		{markov(3), "xabcyabc", "yabcyabc"},
		// Of a tie without the last one the least is the first.
		{markov(1), "ambnan", "ambnam"},
		// Guesses have weight: behind x, which was never ahead of another press, comes what is guessed there first.
		{markov(1), "ax", "xxxx"},
		{markov(3), "aaabaaa", "baaabaaa"},
		{drawnOf("xyz"), "", "xyzxyz"},
		{drawnOf("xyz"), "ab", "zxyzxy"},
		{drawnOf("xyz"), "abcdef", "xyz"},
		{drawnOf("x"), "abcdef", "xxxx"},
	} {
		if got := Chain(x.by, []byte(x.past), len(x.want)); string(got) != x.want {
			t.Errorf("P18.1: Chain of %d, %d, %q behind %q: %q, not %q", x.by.Kind, x.by.Order, x.by.Table, x.past, got, x.want)
		}
	}
}

// pasts gives all lists of that length of these values.
func pasts(length int, of []byte, each func([]byte)) {
	past := make([]byte, length)
	var fill func(int)
	fill = func(i int) {
		if i == length {
			each(past)
			return
		}
		for _, v := range of {
			past[i] = v
			fill(i + 1)
		}
	}
	fill(0)
}

func TestAllShortPasts(t *testing.T) {
	guesses := []By{last(), markov(0), markov(1), markov(2), markov(3), table(1), table(255, 0), table(0, 1, 255)}
	for _, of := range [][]byte{{0, 1, 255}, {7, 3}} {
		for length := range 7 {
			pasts(length, of, func(past []byte) {
				for _, b := range guesses {
					if got, want := Rank(b, past, 256), rankOf(b, past); !bytes.Equal(got, want) {
						t.Fatalf("P18.1: Rank of %d, %d, %v behind %v: %v, not %v", b.Kind, b.Order, b.Table, past, got, want)
					}
					if got, want := Chain(b, past, 5), chainOf(b, past, 5); !bytes.Equal(got, want) {
						t.Fatalf("P18.1: Chain of %d, %d, %v behind %v: %v, not %v", b.Kind, b.Order, b.Table, past, got, want)
					}
				}
			})
		}
	}
}

func TestPastsWithoutAPattern(t *testing.T) {
	n := noise(18)
	for _, kinds := range []int{1, 2, 3, 5, 20, 256} {
		for _, length := range []int{4, 5, 17, 100, 255, 256, 257, 600, 999, 1000, 1001, 1500} {
			past := n.bytes(length, kinds)
			for _, b := range all() {
				holds(t, b, past, 24)
			}
		}
	}
}

func TestPastsThatRepeat(t *testing.T) {
	for _, part := range []string{"a", "ab", "aab", "abac", "abacabad", "aaaaab", "\x00\xff", "\x00\x00\x01"} {
		for cut := range 8 {
			past := []byte(strings.Repeat(part, 30))
			past = past[:len(past)-cut]
			for _, b := range all() {
				holds(t, b, past, 40)
			}
		}
	}
}

// A past that is as long as the order, or shorter, has no weights; one longer has one.
func TestPastsNearTheOrder(t *testing.T) {
	for order := range 4 {
		for length := range order + 3 {
			holds(t, markov(order), make([]byte, length), 9)
			holds(t, markov(order), rises(length, 9, 0), 9)
			holds(t, markov(order), rises(length, 9, 1), 9)
			holds(t, markov(order), rises(length, 0, -1), 9)
		}
		short := rises(order, 9, 1)
		if order > 0 {
			if got := Rank(markov(order), short, 2); !bytes.Equal(got, []byte{short[order-1], 0}) {
				t.Errorf("P18.1: Rank of the order %d behind %v: %v", order, short, got)
			}
		}
		// 9 9 9 and one 9 more: that one has weight 1, and comes ahead of 0 by that, or by being the last one.
		if got := Rank(markov(order), rises(order+1, 9, 0), 2); !bytes.Equal(got, []byte{9, 0}) {
			t.Errorf("P18.1: Rank of the order %d: %v", order, got)
		}
	}
}

// A past whose end stands nowhere else: no value has weight, so the last one is the first.
func TestEndsThatStandNowhereElse(t *testing.T) {
	for order := 1; order <= 3; order++ {
		past := append(rises(100, 1, 1), 250, 251, 252)
		if got := Rank(markov(order), past, 3); !bytes.Equal(got, []byte{252, 0, 1}) {
			t.Errorf("P18.1: Rank of the order %d: %v", order, got)
		}
		if got := Chain(markov(order), past, 50); !bytes.Equal(got, rises(50, 252, 0)) {
			t.Errorf("P18.1: Chain of the order %d: %v", order, got)
		}
		holds(t, markov(order), past, 50)
	}
	// Less of the end stands elsewhere: that has no weight.
	if got := Rank(markov(2), []byte("xbqab"), 2); string(got) != "b\x00" {
		t.Errorf("P18.1: Rank: %q", got)
	}
	if got := Rank(markov(3), []byte("xabqyabrcab"), 2); string(got) != "b\x00" {
		t.Errorf("P18.1: Rank: %q", got)
	}
}

// All 256 values with a weight of its own each; the last one has the least.
func TestWeightsOfAll(t *testing.T) {
	var past []byte
	for v := range 256 {
		past = append(past, bytes.Repeat([]byte{byte(v)}, v+1)...)
	}
	slices.Reverse(past)
	want := rises(256, 255, -1)
	if got := Rank(markov(0), past, 256); !bytes.Equal(got, want) {
		t.Errorf("P18.1: Rank: %v", got)
	}
	// The same of the order 1: behind each 77, so often each.
	var behind []byte
	for v := range 256 {
		for range (v*3 + 5) % 256 {
			behind = append(behind, 77, byte(v))
		}
	}
	behind = append(behind, 77)
	holds(t, markov(1), behind, 5)
}

// Weights that would be others as bytes or as numbers of 16 bits.
func TestGreatWeights(t *testing.T) {
	for _, x := range []struct{ more, less int }{{256, 255}, {257, 1}, {256, 1}, {1 << 16, 1}, {1<<16 + 1, 2}, {1<<16 + 1, 1 << 16}, {1 << 17, 1<<17 - 1}} {
		past := slices.Concat(bytes.Repeat([]byte("x"), x.more), bytes.Repeat([]byte("b"), x.less))
		if got := Rank(markov(0), past, 3); string(got) != "xb\x00" {
			t.Errorf("P18.1: Rank behind %d x and %d b: %q", x.more, x.less, got)
		}
		if got := Chain(markov(0), past, 2); string(got) != "xx" {
			t.Errorf("P18.1: Chain behind %d x and %d b: %q", x.more, x.less, got)
		}
		pairs := slices.Concat(bytes.Repeat([]byte("mx"), x.more), bytes.Repeat([]byte("mb"), x.less), []byte("m"))
		if got := Rank(markov(1), pairs, 3); string(got) != "xbm" {
			t.Errorf("P18.1: Rank behind %d mx and %d mb: %q", x.more, x.less, got)
		}
	}
}

// Guesses count as presses do: a tie that guesses make is broken as each other one.
func TestGuessesCount(t *testing.T) {
	n := noise(5)
	for range 60 {
		past := n.bytes(n.next(30), 2+n.next(3))
		for order := range 4 {
			holds(t, markov(order), past, 120)
		}
	}
	for order := range 4 {
		holds(t, markov(order), n.bytes(1000, 4), 1000)
		holds(t, markov(order), n.bytes(900, 256), 300)
	}
}

func TestTables(t *testing.T) {
	for _, length := range []int{1, 2, 3, 255, 256, 257, 999, 1000} {
		list := rises(length, 200, 3)
		for _, behind := range []int{0, 1, 2, length - 1, length, length + 1, 2*length - 1, 2 * length, 3*length + 1, 1000, 1001, 5000} {
			past := rises(behind, 3, 5)
			want := list[behind%length]
			if got := Rank(table(list...), past, 1); !bytes.Equal(got, []byte{want}) {
				t.Errorf("P18.1: Rank of a table of %d behind %d: %v, not %d", length, behind, got, want)
			}
			holds(t, table(list...), past, 30)
			chain := Chain(table(list...), past, 1000)
			for i, v := range chain {
				if want := list[(behind+i)%length]; v != want {
					t.Fatalf("P18.1: Chain of a table of %d behind %d: the %d-th is %d, not %d", length, behind, i, v, want)
				}
			}
			if len(chain) != 1000 {
				t.Errorf("P18.1: Chain of a table of %d: %d", length, len(chain))
			}
		}
	}
}

// The drawn one that is the last one too, and the drawn one beside each last one.
func TestDrawnAndLast(t *testing.T) {
	for drawnOne := range 256 {
		for lastOne := range 256 {
			past := []byte{77, byte(lastOne)}
			got := Rank(table(byte(drawnOne)), past, 256)
			want := []byte{byte(drawnOne)}
			if lastOne != drawnOne {
				want = append(want, byte(lastOne))
			}
			for v := range 256 {
				if v != drawnOne && v != lastOne {
					want = append(want, byte(v))
				}
			}
			if !bytes.Equal(got, want) {
				t.Fatalf("P18.1: Rank, %d drawn behind %d: %v", drawnOne, lastOne, got)
			}
		}
	}
}

// Each value is the last one once.
func TestEachLastOne(t *testing.T) {
	for lastOne := range 256 {
		past := []byte{byte(lastOne + 1), byte(lastOne)}
		want := []byte{byte(lastOne)}
		for v := range 256 {
			if v != lastOne {
				want = append(want, byte(v))
			}
		}
		if got := Rank(last(), past, 256); !bytes.Equal(got, want) {
			t.Errorf("P18.1: Rank behind %d: %v", lastOne, got)
		}
		if got := Chain(last(), past, 7); !bytes.Equal(got, bytes.Repeat([]byte{byte(lastOne)}, 7)) {
			t.Errorf("P18.1: Chain behind %d: %v", lastOne, got)
		}
	}
}

// Rank's values are all 256 once, and the first k of them are those of each lesser k; Chain's likewise.
func TestCounts(t *testing.T) {
	n := noise(77)
	for _, past := range [][]byte{nil, {}, {5}, []byte("abcab"), n.bytes(400, 3), n.bytes(1200, 256)} {
		for _, b := range all() {
			rank := rankOf(b, past)
			sorted := slices.Sorted(slices.Values(Rank(b, past, 256)))
			if !bytes.Equal(sorted, rises(256, 0, 1)) {
				t.Errorf("P18.1: Rank's values are %v", sorted)
			}
			for _, k := range ks {
				if got, want := Rank(b, past, k), rank[:min(max(k, 0), 256)]; !bytes.Equal(got, want) {
					t.Errorf("P18.1: Rank of %d, %d to %d: %d values %v, not %v", b.Kind, b.Order, k, len(got), short(got), short(want))
				}
			}
			chain := Chain(b, past, 1000)
			if len(chain) != 1000 {
				t.Errorf("P18.1: Chain to 1,000: %d", len(chain))
			}
			for _, count := range ns {
				if got, want := Chain(b, past, count), chain[:min(max(count, 0), 1000)]; !bytes.Equal(got, want) {
					t.Errorf("P18.1: Chain of %d, %d to %d: %d guesses %v, not %v", b.Kind, b.Order, count, len(got), short(got), short(want))
				}
			}
		}
	}
	for k := range 257 {
		if got := Rank(markov(1), []byte("abaca"), k); len(got) != k {
			t.Errorf("P18.1: Rank to %d: %d", k, len(got))
		}
	}
	for count := range 1001 {
		if got := Chain(table(1, 2), nil, count); len(got) != count {
			t.Errorf("P18.1: Chain to %d: %d", count, len(got))
		}
	}
}

// What is guessed goes on as what was pressed does.
func TestChainsGoOn(t *testing.T) {
	n := noise(3)
	past := n.bytes(50, 3)
	for _, b := range all() {
		whole := Chain(b, past, 60)
		for cut := range whole {
			rest := Chain(b, slices.Concat(past, whole[:cut]), 60-cut)
			if !bytes.Equal(rest, whole[cut:]) {
				t.Fatalf("P18.1: Chain of %d, %d behind its first %d: %v, not %v", b.Kind, b.Order, cut, rest, whole[cut:])
			}
		}
	}
}

// scribble writes over a list and its spare room.
func scribble(b []byte) {
	for i := range b[:cap(b)] {
		b[:cap(b)][i] ^= 0x5a
	}
}

func TestAnswersAreNew(t *testing.T) {
	past := []byte("abcabdabca")
	for _, b := range all() {
		rank, chain := Rank(b, past, 256), Chain(b, past, 30)
		wantRank, wantChain := slices.Clone(rank), slices.Clone(chain)
		scribble(Rank(b, past, 256))
		scribble(Rank(b, past, 0))
		scribble(Rank(b, past, 4))
		scribble(Chain(b, past, 30))
		scribble(Chain(b, past, 0))
		scribble(Chain(b, past, 7))
		if !bytes.Equal(rank, wantRank) || !bytes.Equal(chain, wantChain) {
			t.Errorf("P0.3, P18.1: an answer of %d, %d is another one", b.Kind, b.Order)
		}
		if string(past) != "abcabdabca" {
			t.Errorf("P0.3, P18.1: the past is %q", past)
		}
		scribble(rank)
		scribble(chain)
		holds(t, b, past, 30)
	}
}

func TestListsStay(t *testing.T) {
	room := []byte("abcabcab--------------------")
	list := []byte("xyz----")
	past := room[:8]
	for _, b := range []By{last(), markov(0), markov(1), markov(2), markov(3), {Kind: api.GTable, Table: list[:3]}} {
		for _, k := range []int{-1, 0, 1, 8, 256, 300} {
			Rank(b, past, k)
			Chain(b, past, k)
			May(b)
		}
		if string(room) != "abcabcab--------------------" || string(list) != "xyz----" {
			t.Fatalf("P0.3, P18.1: %d, %d: the past is %q, the table %q", b.Kind, b.Order, room, list)
		}
	}
}

// What was handed in isn't kept: what becomes of it changes no answer that is there already.
func TestListsAreNotKept(t *testing.T) {
	past, list := []byte("abcabcab"), []byte("xyz")
	for _, b := range []By{last(), markov(0), markov(1), markov(2), {Kind: api.GTable, Table: list}} {
		rank, chain := Rank(b, past, 9), Chain(b, past, 20)
		wantRank, wantChain := slices.Clone(rank), slices.Clone(chain)
		scribble(past)
		scribble(list)
		if !bytes.Equal(rank, wantRank) || !bytes.Equal(chain, wantChain) {
			t.Errorf("P0.3, P18.1: an answer of %d, %d is another one", b.Kind, b.Order)
		}
		// And each answer is of the lists as they are when it is asked.
		holds(t, b, past, 20)
		scribble(past)
		scribble(list)
		holds(t, b, past, 20)
	}
}

func TestNilAndEmpty(t *testing.T) {
	for _, b := range all() {
		if !bytes.Equal(Rank(b, nil, 256), Rank(b, []byte{}, 256)) || !bytes.Equal(Chain(b, nil, 50), Chain(b, []byte{}, 50)) {
			t.Errorf("P0.4, P18.1: %d, %d: nil and empty pasts differ", b.Kind, b.Order)
		}
		holds(t, b, nil, 50)
	}
	for order := range 4 {
		empty := By{Kind: api.GMarkov, Order: order, Table: []byte{}}
		if !bytes.Equal(Rank(empty, []byte("aba"), 9), Rank(markov(order), []byte("aba"), 9)) {
			t.Errorf("P0.4, P18.1: nil and empty tables differ")
		}
	}
}

// Each answer is the same again, whatever was asked between.
func TestNothingIsKept(t *testing.T) {
	n := noise(9)
	past := n.bytes(60, 3)
	for _, b := range all() {
		rank, chain := Rank(b, past, 256), Chain(b, past, 40)
		for _, other := range all() {
			Rank(other, n.bytes(20, 5), 256)
			Chain(other, n.bytes(20, 5), 40)
		}
		if !bytes.Equal(Rank(b, past, 256), rank) || !bytes.Equal(Chain(b, past, 40), chain) {
			t.Errorf("P0.5, P18.1: %d, %d: asked again it is another answer", b.Kind, b.Order)
		}
	}
}

// A long past: each call ends.
func TestLongPasts(t *testing.T) {
	n := noise(1)
	past := n.bytes(1<<20, 7)
	for _, b := range all() {
		if got, want := Rank(b, past, 256), rankOf(b, past); !bytes.Equal(got, want) {
			t.Errorf("P18.1: Rank of %d, %d behind %d presses: %v, not %v", b.Kind, b.Order, len(past), got, want)
		}
		chain := Chain(b, past, 1000)
		if len(chain) != 1000 || !bytes.Equal(chain[:3], chainOf(b, past, 3)) {
			t.Errorf("P18.1: Chain of %d, %d behind %d presses: %v", b.Kind, b.Order, len(past), short(chain))
		}
	}
}
