package vm

import (
	"errors"
	"fmt"
	"math"
	"math/big"
	"slices"
	"strings"
	"testing"

	"quintain/api"
	"quintain/asm"
	"quintain/check"
	"quintain/state"
)

const (
	low  = math.MinInt32
	high = math.MaxInt32
)

// edges: numbers at the ends of 32 bits, of a cell's numbers, of a title's, and what is the same as these in 5, 8 or 16 bits.
var edges = []int32{
	0, 1, -1, 2, -2, 3, -3, 7, -7, 19, 20, 21, 30, 31, 32, 33, -31, -32, -33, 63, 64, 65, -64, 127, 128, -128, 255, 256, 257, -255, -256, -257,
	1000, 1<<16 - 1, 1 << 16, 1<<16 + 1, -1 << 16, 1 << 30, 1<<30 + 1, -1 << 30, 1 << 24, 46341, -46341, low, low + 1, low + 2, high - 2, high - 1, high,
}

// frames: at the ends of 32 and 64 bits, and those that come to a small one modulo 2^32.
var frames = []int{
	0, 1, 2, 255, 256, 999, 1000, 1001, -1, -2, high - 1, high, high + 1, low - 1, low, low + 1, 1<<32 - 1, 1 << 32, 1<<32 + 5, -1 << 32, -1<<32 - 1, -1<<32 + 1,
	1<<33 + 1<<31, 1 << 40, 1<<40 + 17, -1 << 40, math.MinInt, math.MinInt + 1, math.MinInt + 1<<31, math.MaxInt - 1, math.MaxInt,
}

// strict is a memory that counts the numbers it is asked for that are no cell's.
type strict struct {
	s    state.State
	uses int
	out  int
}

func (m *strict) cell(i int) *int32 {
	m.uses++
	if i < 0 || i > 31 {
		m.out++
		return new(int32)
	}
	return &m.s[i]
}

func (m *strict) Get(i int) int32 { return *m.cell(i) }

func (m *strict) Set(i int, v int32) { *m.cell(i) = v }

// noise gives numbers without a pattern that is short, always the same of one seed.
type noise uint32

func (n *noise) next(below int) int {
	*n = 1664525**n + 1013904223
	return int(uint64(*n^*n>>13) * uint64(below) >> 32)
}

func (n *noise) pick() int32 {
	if n.next(3) == 0 {
		return int32(n.next(1 << 32))
	}
	return edges[n.next(len(edges))]
}

func (n *noise) game() state.State {
	var s state.State
	for i := range s {
		s[i] = n.pick()
	}
	return s
}

func program(ops ...api.Op) api.Prog { return api.Prog{Title: "a", Ops: ops} }

func text(t *testing.T, s string) api.Prog {
	t.Helper()
	p, line, err := asm.Parse(s)
	if err != api.OK || !check.May(p) {
		t.Fatalf("%q: line %d", s, line)
	}
	return p
}

// told runs p both ways, holds the game against want, and answers how many operations were done.
func told(t *testing.T, p api.Prog, s state.State, frame int, press []byte, want state.State) int {
	t.Helper()
	m := strict{s: s}
	n := Run(p, &m, frame, press)
	if m.s != want {
		t.Errorf("P9.1: Run of %v, frame %d, press %v, over %v: %v, not %v", p.Ops, frame, press, s, m.s, want)
	}
	if m.out > 0 {
		t.Errorf("P9.1: Run of %v over %v asked for %d numbers that are no cell's", p.Ops, s, m.out)
	}
	if got := Step(p, s, frame, press); got != want {
		t.Errorf("P9.1: Step of %v, frame %d, press %v, over %v: %v, not %v", p.Ops, frame, press, s, got, want)
	}
	return n
}

// one tells what one operation makes of a game.
func one(t *testing.T, op api.Op, s state.State, frame int, press []byte, want state.State) {
	t.Helper()
	if n := told(t, program(op), s, frame, press, want); n != 1 {
		t.Errorf("P9.1: Run of %v: %d operations", op, n)
	}
}

// with is s with v in the cell i.
func with(s state.State, i int, v int32) state.State {
	s[i] = v
	return s
}

func TestPrograms(t *testing.T) {
	for s, want := range map[string]struct {
		n     int
		cells string // the first eight
	}{
		"halt":                       {1, "[0 0 0 0 0 0 0 0]"},
		"halt\nset 0 1":              {1, "[0 0 0 0 0 0 0 0]"},
		"set 0 1\nhalt\nset 1 1":     {2, "[1 0 0 0 0 0 0 0]"},
		"set 0 1\nset 1 2\nset 2 -3": {3, "[1 2 -3 0 0 0 0 0]"},
		"set 0 2147483647\nset 1 1\nadd 2 0 1\nsub 3 2 1":                          {4, "[2147483647 1 -2147483648 2147483647 0 0 0 0]"},
		"set 0 65536\nmul 1 0 0\nset 2 46341\nmul 3 2 2":                           {4, "[65536 0 46341 -2147479015 0 0 0 0]"},
		"set 0 -7\nset 1 2\ndiv 2 0 1\ndiv 3 0 4":                                  {4, "[-7 2 -3 0 0 0 0 0]"},
		"set 0 -2147483648\nset 1 -1\ndiv 2 0 1":                                   {3, "[-2147483648 -1 -2147483648 0 0 0 0 0]"},
		"set 0 -1\nless 1 0 2\nless 2 2 0\nless 3 0 0":                             {4, "[-1 1 0 0 0 0 0 0]"},
		"set 0 5\nmov 1 0\nsame 2 0 1\nsame 3 0 2":                                 {4, "[5 5 1 0 0 0 0 0]"},
		"jump 2\nset 0 1\nset 1 1":                                                 {2, "[0 1 0 0 0 0 0 0]"},
		"jump 2\nset 0 1":                                                          {1, "[0 0 0 0 0 0 0 0]"},
		"zero 0 2\nset 0 1\nset 1 1":                                               {2, "[0 1 0 0 0 0 0 0]"},
		"set 0 1\nzero 0 3\nset 1 1\nset 2 1":                                      {4, "[1 1 1 0 0 0 0 0]"},
		"zero 0 3\nset 0 1\nset 1 1":                                               {1, "[0 0 0 0 0 0 0 0]"},
		"set 3 2\nin 0 0\nset 1 1\nin 1 1\nin 2 3":                                 {5, "[7 200 0 2 0 0 0 0]"},
		"set 0 33\nset 2 9\nkeep 0 2\nload 3 0\nset 4 -31":                         {5, "[33 9 9 9 -31 0 0 0]"},
		"rune 0 0\nset 1 1\nrune 2 1\nset 3 2\nrune 3 3":                           {5, "[233 1 0 0 0 0 0 0]"},
		"time 7\ntime 0":                                                           {2, "[17 0 0 0 0 0 0 17]"},
		"jump 3\nset 0 1\njump 5\nset 1 1\njump 1\nset 2 1":                        {6, "[1 1 1 0 0 0 0 0]"},
		"set 0 10\nset 1 1\nsub 0 0 1\nadd 2 2 1\nzero 0 6\njump 2\nhalt\nset 3 1": {42, "[0 1 10 0 0 0 0 0]"},
		"set 1 1\nadd 0 0 1\njump 1":                                               {200, "[100 1 0 0 0 0 0 0]"},
		"jump 0":                                                                   {200, "[0 0 0 0 0 0 0 0]"},
		"zero 9 0":                                                                 {200, "[0 0 0 0 0 0 0 0]"},
	} {
		p := text(t, "title é\n"+s)
		m := strict{}
		n := Run(p, &m, 17, []byte{7, 200})
		if cells := fmt.Sprint(m.s[:8]); n != want.n || cells != want.cells || m.out > 0 {
			t.Errorf("P9.1: %q: %d, %s", s, n, cells)
		}
		if got := Step(p, state.State{}, 17, []byte{7, 200}); got != m.s {
			t.Errorf("P9.1: %q: Step: %v", s, got)
		}
	}
}

// wrapped is n modulo 2^32, as signed.
func wrapped(n *big.Int) int32 {
	return int32(uint32(new(big.Int).Mod(n, big.NewInt(1<<32)).Uint64()))
}

func truths(b bool) *big.Int {
	if b {
		return big.NewInt(1)
	}
	return new(big.Int)
}

// reckoned is what an operation of two cells is to answer.
func reckoned(code int, b, c int32) int32 {
	x, y, z := big.NewInt(int64(b)), big.NewInt(int64(c)), new(big.Int)
	switch code {
	case api.KAdd:
		z.Add(x, y)
	case api.KSub:
		z.Sub(x, y)
	case api.KMul:
		z.Mul(x, y)
	case api.KDiv:
		if c != 0 {
			z.Quo(x, y)
		}
	case api.KLess:
		z = truths(x.Cmp(y) < 0)
	case api.KSame:
		z = truths(x.Cmp(y) == 0)
	}
	return wrapped(z)
}

func TestReckoning(t *testing.T) {
	for code := api.KAdd; code <= api.KSame; code++ {
		for _, b := range edges {
			for _, c := range edges {
				s := state.State{4: b, 9: 77, 30: c}
				one(t, api.Op{Code: code, A: 9, B: 4, C: 30}, s, 5, nil, with(s, 9, reckoned(code, b, c)))
			}
		}
	}
}

// An operation's cells may be one and the same.
func TestReckoningInPlace(t *testing.T) {
	for code := api.KAdd; code <= api.KSame; code++ {
		for _, v := range edges {
			s := state.State{3: v, 8: -5}
			one(t, api.Op{Code: code, A: 3, B: 3, C: 8}, s, 0, nil, with(s, 3, reckoned(code, v, -5)))
			one(t, api.Op{Code: code, A: 3, B: 8, C: 3}, s, 0, nil, with(s, 3, reckoned(code, -5, v)))
			one(t, api.Op{Code: code, A: 8, B: 3, C: 3}, s, 0, nil, with(s, 8, reckoned(code, v, v)))
			one(t, api.Op{Code: code, A: 3, B: 3, C: 3}, s, 0, nil, with(s, 3, reckoned(code, v, v)))
		}
	}
}

func TestSetAndMov(t *testing.T) {
	s := (new(noise)).game()
	for _, v := range edges {
		for i := range api.Cells {
			one(t, api.Op{Code: api.KSet, A: i, B: int(v)}, s, 3, nil, with(s, i, v))
			one(t, api.Op{Code: api.KMov, A: 31 - i, B: i}, with(s, i, v), 3, nil, with(with(s, i, v), 31-i, v))
		}
	}
	for i := range api.Cells {
		one(t, api.Op{Code: api.KMov, A: i, B: i}, s, 3, nil, s)
	}
}

func TestPlayers(t *testing.T) {
	for _, n := range []int{0, 1, 2, 3, 8, 9, 31, 255, 256, 257, 300} {
		press := make([]byte, n)
		for i := range press {
			press[i] = byte(i + 100)
		}
		players := append([]int32{int32(n) - 1, int32(n), int32(n) + 1, -int32(n), 1<<16 + int32(n) - 1}, edges...)
		for _, player := range players {
			want := int32(0)
			if player >= 0 && int(player) < n {
				want = (player + 100) % 256
			}
			s := state.State{6: player, 7: -9}
			// In the list's spare room nobody presses.
			one(t, api.Op{Code: api.KIn, A: 7, B: 6}, s, 0, append(press, 1, 2, 3)[:n], with(s, 7, want))
			one(t, api.Op{Code: api.KIn, A: 6, B: 6}, s, 0, press, with(s, 6, want))
		}
	}
}

func TestPresses(t *testing.T) {
	for v := range 256 {
		s := state.State{2: 1, 3: -1}
		one(t, api.Op{Code: api.KIn, A: 3, B: 2}, s, 0, []byte{9, byte(v), 9}, with(s, 3, int32(v)))
	}
}

// around is v modulo 32, found by going.
func around(v int32) int {
	n := int64(v) / 32 * 32
	for n > int64(v) {
		n -= 32
	}
	return int(int64(v) - n)
}

func TestLoadAndKeep(t *testing.T) {
	numbers := slices.Clone(edges)
	for v := int32(-100); v <= 100; v++ {
		numbers = append(numbers, v, low+100+v, high-100+v)
	}
	s := (new(noise)).game()
	for _, v := range numbers {
		for _, i := range []int{0, 5, 31} {
			told := with(s, i, v)
			one(t, api.Op{Code: api.KLoad, A: 12, B: i}, told, 0, nil, with(told, 12, told[around(v)]))
			one(t, api.Op{Code: api.KLoad, A: i, B: i}, told, 0, nil, with(told, i, told[around(v)]))
			one(t, api.Op{Code: api.KKeep, A: i, B: 13}, told, 0, nil, with(told, around(v), told[13]))
			one(t, api.Op{Code: api.KKeep, A: i, B: i}, told, 0, nil, with(told, around(v), v))
		}
	}
}

func TestRunes(t *testing.T) {
	for _, title := range []string{"a", "é", "quintain", " #", "aé€😀", "\uFFFDx", "\u0080", "\U0010FFFF", strings.Repeat("😀", 20), "abcdefghijklmnopqrst"} {
		signs := []rune(title)
		for _, n := range append([]int32{int32(len(signs)) - 1, int32(len(signs)), int32(len(title)) - 1, int32(len(title))}, edges...) {
			want := int32(0)
			if n >= 0 && int(n) < len(signs) {
				want = signs[n]
			}
			s := state.State{1: n, 20: -1}
			p := api.Prog{Title: title, Ops: []api.Op{{Code: api.KRune, A: 20, B: 1}}}
			if done := told(t, p, s, 0, nil, with(s, 20, want)); done != 1 {
				t.Errorf("P9.1: rune %d of %q: %d operations", n, title, done)
			}
		}
	}
}

func TestTime(t *testing.T) {
	s := (new(noise)).game()
	for i, frame := range frames {
		one(t, api.Op{Code: api.KTime, A: i}, s, frame, nil, with(s, i, wrapped(big.NewInt(int64(frame)))))
	}
}

// marked: many operations; the one at writes its own number and one more into its cell modulo 32, but for op at the place 0.
func marked(op api.Op, many int) api.Prog {
	ops := make([]api.Op, many)
	for i := range ops {
		ops[i] = api.Op{Code: api.KSet, A: i % 32, B: i + 1}
	}
	ops[0] = op
	return program(ops...)
}

// after is the game of marked's operations from first on, and how many they are.
func after(first, many int, s state.State) (state.State, int) {
	for i := first; i < many; i++ {
		s[i%32] = int32(i + 1)
	}
	return s, many - first
}

func TestJumpAndZero(t *testing.T) {
	for _, many := range []int{1, 2, 3, 32, 33, 63, 64} {
		for to := 1; to <= many; to++ {
			s := state.State{31: 0}
			want, n := after(to, many, s)
			if done := told(t, marked(api.Op{Code: api.KJump, A: to}, many), s, 0, nil, want); done != n+1 {
				t.Errorf("P9.1: jump %d of %d: %d operations", to, many, done)
			}
			if done := told(t, marked(api.Op{Code: api.KZero, A: 31, B: to}, many), s, 0, nil, want); done != n+1 {
				t.Errorf("P9.1: zero to %d of %d: %d operations", to, many, done)
			}
			for _, v := range []int32{1, -1, 256, 1 << 16, 1 << 30, low, high} {
				s[31] = v
				want, n := after(1, many, s)
				if done := told(t, marked(api.Op{Code: api.KZero, A: 31, B: to}, many), s, 0, nil, want); done != n+1 {
					t.Errorf("P9.1: zero of %d to %d of %d: %d operations", v, to, many, done)
				}
			}
		}
	}
}

// Backwards too, and to itself.
func TestJumpsBack(t *testing.T) {
	for to := range 5 {
		p := text(t, fmt.Sprintf("title a\nset 9 1\nadd 0 0 9\nadd 1 1 9\nadd 2 2 9\njump %d", to))
		s, done, at := state.State{}, 0, 0
		for ; done < 200; done++ {
			switch at {
			case 0:
				s[9] = 1
			case 1, 2, 3:
				s[at-1]++
			}
			at = (at + 1) % 5
			if at == 0 {
				at = to
			}
		}
		if n := told(t, p, state.State{}, 0, nil, s); n != 200 {
			t.Errorf("P9.1: jump back to %d: %d operations", to, n)
		}
	}
}

// Of each of many numbers of operations up to a halt or the end: all of them are done up to 200, and no more.
func TestFuel(t *testing.T) {
	for rounds := 1; rounds <= 70; rounds++ {
		for pad := range 4 {
			for _, end := range []string{"", "halt\n", "jump 99\n"} {
				lines := fmt.Sprintf("set 0 %d\nset 1 1\nsub 0 0 1\nzero 0 5\njump 2\n%s", rounds, strings.Repeat("add 2 2 1\n", pad))
				total := 2 + 3*rounds - 1 + pad + 1
				if end == "" {
					total--
				}
				lines += strings.Replace(end, "99", fmt.Sprint(6+pad), 1)
				m := strict{}
				done := Run(text(t, "title a\n"+lines), &m, 0, nil)
				padded := max(0, min(pad, 200-(2+3*rounds-1)))
				if done != min(total, 200) || m.s[2] != int32(padded) {
					t.Errorf("P9.1: %d rounds, %d more, %q: %d operations, %d of the last ones", rounds, pad, end, done, m.s[2])
				}
			}
		}
	}
}

func TestAllOperationsOfAProgram(t *testing.T) {
	for many := 2; many <= api.MaxOps; many++ {
		want, _ := after(1, many, state.State{0: 5})
		if many < 33 {
			want[0] = 7
		}
		if n := told(t, marked(api.Op{Code: api.KSet, A: 0, B: 7}, many), state.State{0: 5}, 0, nil, want); n != many {
			t.Errorf("P9.1: of %d operations %d were done", many, n)
		}
		halted := marked(api.Op{Code: api.KSet, A: 0, B: 7}, many)
		halted.Ops[many-1] = api.Op{}
		if n := Run(halted, &strict{}, 0, nil); n != many {
			t.Errorf("P9.1: of %d operations, the last one halt, %d were done", many, n)
		}
		halted.Ops[many/2] = api.Op{}
		if n := Run(halted, &strict{}, 0, nil); n != many/2+1 {
			t.Errorf("P9.1: halt at %d: %d were done", many/2, n)
		}
	}
}

// wrong: programs that may not run; what could be done of them would be seen.
func wrong() []api.Prog {
	set := api.Op{Code: api.KSet, A: 1, B: 5}
	progs := []api.Prog{
		{}, {Title: "a"}, {Title: "a", Ops: []api.Op{}}, {Ops: []api.Op{set}}, {Title: "a\n", Ops: []api.Op{set}}, {Title: "\xff", Ops: []api.Op{set}},
		{Title: strings.Repeat("x", 21), Ops: []api.Op{set}}, {Title: "a", Ops: slices.Repeat([]api.Op{set}, 65)}, {Title: "a", Ops: slices.Repeat([]api.Op{set}, 1<<16)},
	}
	for _, bad := range []api.Op{
		{Code: -1}, {Code: 16}, {Code: low}, {Code: math.MaxInt}, {A: 1}, {B: 1}, {C: -1}, {Code: api.KSet, A: 32}, {Code: api.KSet, A: -1}, {Code: api.KSet, B: high + 1}, {Code: api.KSet, C: 1},
		{Code: api.KMov, B: 32}, {Code: api.KMov, C: 1}, {Code: api.KAdd, C: 32}, {Code: api.KDiv, B: -1}, {Code: api.KJump, A: 4}, {Code: api.KJump, A: -1}, {Code: api.KJump, B: 1}, {Code: api.KZero, B: 4},
		{Code: api.KZero, A: 32}, {Code: api.KIn, B: 32}, {Code: api.KLoad, B: -1}, {Code: api.KKeep, A: 32}, {Code: api.KRune, A: math.MinInt}, {Code: api.KTime, A: 1 << 40}, {Code: api.KTime, B: 1},
	} {
		// Also where it would never be done.
		progs = append(progs, program(bad, set, set), program(set, bad, set), program(set, api.Op{}, bad), program(api.Op{}, bad, set))
	}
	return progs
}

func TestProgramsThatMayNotRun(t *testing.T) {
	s := (new(noise)).game()
	for _, p := range wrong() {
		m := strict{s: s}
		if n := Run(p, &m, 7, []byte{1, 2}); n != 0 || m.uses > 0 || m.s != s {
			t.Errorf("P9.1: Run of %.20q, %d operations %v: %d, memory asked %d times", p.Title, len(p.Ops), p.Ops[:min(4, len(p.Ops))], n, m.uses)
		}
		if got := Step(p, s, 7, []byte{1, 2}); got != s {
			t.Errorf("P9.1: Step of %.20q, %d operations %v: %v", p.Title, len(p.Ops), p.Ops[:min(4, len(p.Ops))], got)
		}
		if n := Run(p, nil, 7, nil); n != 0 {
			t.Errorf("P9.1: Run without memory: %d", n)
		}
	}
}

func TestNoMemory(t *testing.T) {
	for _, s := range []string{"halt", "jump 0", "jump 1", "set 0 1", "time 3", "set 0 1\nhalt"} {
		for _, frame := range frames {
			if n := Run(text(t, "title a\n"+s), nil, frame, []byte{1}); n != 0 {
				t.Errorf("P9.1: %q without memory: %d", s, n)
			}
		}
	}
}

// frail panics when it was used so often.
type frail struct {
	strict
	left int
}

func (m *frail) Get(i int) int32 {
	m.use()
	return m.strict.Get(i)
}

func (m *frail) Set(i int, v int32) {
	m.use()
	m.strict.Set(i, v)
}

func (m *frail) use() {
	if m.left--; m.left < 0 {
		panic(errors.New("no more"))
	}
}

func TestMemoryThatPanics(t *testing.T) {
	p := text(t, "title a\nset 0 1\nadd 1 1 0\nload 2 1\nkeep 1 2\nzero 5 6\nhalt\nrune 3 1\nin 4 3")
	for left := range 15 {
		if n := Run(p, &frail{left: left}, 0, nil); n != 0 {
			t.Errorf("P0.1: a memory that panics behind %d uses: %d", left, n)
		}
	}
	if n := Run(p, &frail{left: 15}, 0, nil); n != 7 {
		t.Errorf("P9.1: %d operations", n)
	}
	if n := Run(p, (*frail)(nil), 0, nil); n != 0 {
		t.Errorf("P0.1: a nil pointer as memory: %d", n)
	}
}

// stubborn keeps nothing: it gives what comes to its mind.
type stubborn struct {
	mind noise
	out  int
}

func (m *stubborn) Get(i int) int32 {
	if i < 0 || i > 31 {
		m.out++
	}
	return m.mind.pick()
}

func (m *stubborn) Set(i int, v int32) {
	if i < 0 || i > 31 {
		m.out++
	}
}

// Whatever a memory gives, the numbers that it is asked for are a cell's, and the frame ends.
func TestNumbersOfCells(t *testing.T) {
	var seed noise
	for k := range 3000 {
		p := anyProgram(&seed)
		m := stubborn{mind: seed}
		if n := Run(p, &m, 5, []byte{1, 2, 3}); n < 1 || n > 200 || m.out > 0 {
			t.Errorf("P9.1, %d: Run of %v: %d operations, %d numbers that are no cell's", k, p.Ops, n, m.out)
		}
	}
}

// meddler writes into the program's list while it is asked.
type meddler struct {
	strict
	ops []api.Op
}

func (m *meddler) Set(i int, v int32) {
	for k := range m.ops {
		m.ops[k] = api.Op{Code: 99, A: -1, B: 1 << 20, C: 32}
	}
	m.strict.Set(i, v)
}

func TestWhatWasCheckedIsDone(t *testing.T) {
	p := text(t, "title a\nset 0 1\nset 1 31\nkeep 1 0\nadd 2 0 1\nzero 3 6\nset 4 1\njump 7\nhalt\nset 5 1")
	m := meddler{ops: p.Ops}
	if n := Run(p, &m, 0, nil); n != 7 || m.s != (state.State{0: 1, 1: 31, 31: 1, 2: 32}) || m.out > 0 {
		t.Errorf("P9.1: %d, %v, %d", n, m.s, m.out)
	}
}

// anyProgram may run; its jumps go anywhere.
func anyProgram(n *noise) api.Prog {
	ops := make([]api.Op, 1+n.next(api.MaxOps))
	for i := range ops {
		ops[i] = anyOp(n, len(ops))
	}
	return api.Prog{Title: []string{"a", "aé€😀", "abcdefghijklmnopqrst"}[n.next(3)], Ops: ops}
}

func anyOp(n *noise, many int) api.Op {
	// Most cells near one another, so that operations stand on one another; few halts and jumps.
	cell := func() int { return n.next(1 + n.next(32)) }
	code := 1 + n.next(15)
	if n.next(40) == 0 {
		code = api.KHalt
	}
	op := api.Op{Code: code, A: cell(), B: cell(), C: cell()}
	switch code {
	case api.KHalt:
		return api.Op{}
	case api.KSet:
		op.B, op.C = int(n.pick()), 0
	case api.KMov, api.KIn, api.KLoad, api.KKeep, api.KRune:
		op.C = 0
	case api.KJump:
		return api.Op{Code: code, A: n.next(many + 1)}
	case api.KZero:
		op.B, op.C = n.next(many+1), 0
	case api.KTime:
		op.B, op.C = 0, 0
	}
	return op
}

// follow is the chapter read once more: a frame over a game, by a table of what to write.
func follow(p api.Prog, s state.State, frame int, press []byte) (state.State, int) {
	for done, at := 0, 0; ; {
		if done == 200 || at == len(p.Ops) {
			return s, done
		}
		op := p.Ops[at]
		done, at = done+1, at+1
		signs := []rune(p.Title)
		to, v := op.A, int32(0)
		switch op.Code {
		case api.KHalt:
			return s, done
		case api.KJump:
			at = op.A
			continue
		case api.KZero:
			if s[op.A] == 0 {
				at = op.B
			}
			continue
		case api.KSet:
			v = int32(op.B)
		case api.KMov:
			v = s[op.B]
		case api.KIn:
			if n := s[op.B]; n >= 0 && int(n) < len(press) {
				v = int32(press[n])
			}
		case api.KLoad:
			v = s[around(s[op.B])]
		case api.KKeep:
			to, v = around(s[op.A]), s[op.B]
		case api.KRune:
			if n := s[op.B]; n >= 0 && int(n) < len(signs) {
				v = signs[n]
			}
		case api.KTime:
			v = wrapped(big.NewInt(int64(frame)))
		default:
			v = reckoned(op.Code, s[op.B], s[op.C])
		}
		s[to] = v
	}
}

func TestAnyPrograms(t *testing.T) {
	var seed noise = 12345
	for k := range 4000 {
		p, s, frame := anyProgram(&seed), seed.game(), frames[seed.next(len(frames))]
		press := make([]byte, seed.next(9))
		for i := range press {
			press[i] = byte(seed.next(256))
		}
		if !check.May(p) {
			t.Fatalf("%d: %v may not run", k, p.Ops)
		}
		want, n := follow(p, s, frame, press)
		if done := told(t, p, s, frame, press, want); done != n {
			t.Errorf("P9.1, %d: Run of %v: %d operations, not %d", k, p.Ops, done, n)
		}
	}
}

func TestWhatIsHandedInStays(t *testing.T) {
	var seed noise = 99
	for range 300 {
		p, s := anyProgram(&seed), seed.game()
		room := append(slices.Clone(p.Ops), api.Op{Code: 99, A: -1}, api.Op{Code: 1, B: 7})
		p.Ops = room[:len(p.Ops)]
		pressed := []byte{250, 7, 8, 9, 10}
		old, ops := s, slices.Clone(room)
		Step(p, s, 3, pressed[:3])
		Run(p, &strict{s: s}, 3, pressed[:3])
		if s != old || !slices.Equal(room, ops) || !slices.Equal(pressed, []byte{250, 7, 8, 9, 10}) {
			t.Fatalf("P0.3: Step of %v changed what was handed in", p.Ops)
		}
		// Operations that lie in the list's spare room are none.
		want, n := follow(api.Prog{Title: p.Title, Ops: slices.Clone(p.Ops)}, s, 3, []byte{250, 7, 8})
		if done := told(t, p, s, 3, pressed[:3], want); done != n {
			t.Errorf("P9.1: Run of %v: %d operations, not %d", p.Ops, done, n)
		}
	}
}

// Nothing is kept from frame to frame, nor between two memories.
func TestNothingIsKept(t *testing.T) {
	p := text(t, "title ab\nset 1 1\nadd 0 0 1\nin 2 1\ntime 3\nrune 4 1\nload 5 0")
	first := Step(p, state.State{}, 8, []byte{5, 6})
	want := state.State{0: 1, 1: 1, 2: 6, 3: 8, 4: 'b', 5: 1}
	if first != want {
		t.Errorf("P9.1: Step: %v", first)
	}
	Step(text(t, "title zz\nset 0 9"), first, 0, nil)
	Run(p, &strict{s: state.State{0: 70}}, 1, nil)
	if again := Step(p, state.State{}, 8, []byte{5, 6}); again != want {
		t.Errorf("P0.5: Step again: %v", again)
	}
	m := strict{}
	for i := range 3 {
		if n := Run(p, &m, i, nil); n != 6 || m.s[0] != int32(i+1) || m.s[3] != int32(i) || m.s[2] != 0 {
			t.Errorf("P9.1: frame %d of one memory: %d, %v", i, n, m.s)
		}
	}
	if second := Step(p, first, 9, nil); second != (state.State{0: 2, 1: 1, 3: 9, 4: 'b', 5: 0}) || first != want {
		t.Errorf("P9.1: a second frame: %v of %v", second, first)
	}
}

func TestNilAndEmptyPresses(t *testing.T) {
	p := text(t, "title a\nin 0 0\nset 1 1\nin 1 1\nset 2 -1\nin 2 2")
	for _, press := range [][]byte{nil, {}, make([]byte, 0, 9)} {
		if n := told(t, p, state.State{}, 0, press, state.State{}); n != 5 {
			t.Errorf("P0.4: of %v: %d operations", press, n)
		}
	}
}
