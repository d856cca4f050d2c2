package fold

import (
	"bytes"
	"fmt"
	"math"
	"math/big"
	"slices"
	"testing"

	"quintain/api"
	"quintain/asm"
	"quintain/check"
	"quintain/state"
	"quintain/vm"
)

// frames: a match's, beside and far beyond them, at the ends of 32 and 64 bits, and some behind which the next ones come over such an end.
var frames = []int{
	0, 1, 2, 7, 255, 256, 998, 999, 1000, 1001, 65535, 65536, 1 << 20, -1, -2, -3, -7, -999, -1000, -1 << 20,
	math.MaxInt32 - 2, math.MaxInt32 - 1, math.MaxInt32, math.MaxInt32 + 1, math.MinInt32 - 2, math.MinInt32 - 1, math.MinInt32, math.MinInt32 + 1,
	1<<32 - 3, 1<<32 - 1, 1 << 32, 1<<32 + 5, -1<<32 - 2, -1 << 32, -1<<32 + 5, 1 << 40, 1<<40 + 17, -1 << 40,
	math.MaxInt - 1000, math.MaxInt - 5, math.MaxInt - 1, math.MaxInt, math.MinInt, math.MinInt + 1, math.MinInt + 1000,
}

// texts are programs that may run.
var texts = []string{
	// Nothing comes of it.
	"halt",
	// Hashes what two players pressed, with the frame's number.
	"set 1 31\nset 2 1\nin 3 4\nmul 0 0 1\nadd 0 0 3\nin 3 2\nmul 0 0 1\nadd 0 0 3\ntime 7\nmul 0 0 1\nadd 0 0 7",
	// Hashes what all of eight players pressed, and keeps that in a cell a frame.
	"set 1 31\nset 2 0\nset 3 8\nin 4 2\nmul 0 0 1\nadd 0 0 4\nset 5 1\nadd 2 2 5\nless 6 2 3\nzero 6 11\njump 3\ntime 7\nmul 8 0 7\nkeep 7 0",
	// Goes round, until the frame's operations are all done.
	"in 1 0\nadd 2 2 1\ntime 3\nadd 4 4 3\njump 0",
	// Its numbers go round.
	"set 1 65599\nmul 0 0 1\nadd 0 0 1\nset 2 2147483647\nadd 3 3 2\nadd 3 3 0\nsub 4 3 0",
	// What is far back comes to be seen: each frame moves all on by a cell.
	"set 1 30\nset 2 1\nload 3 1\nadd 4 1 2\nkeep 4 3\nsub 1 1 2\nset 5 7\nless 6 5 1\nzero 6 10\njump 2\nin 8 0",
	// Does other things at other frames, alone by what the frame's number is.
	"time 1\nset 2 2\ndiv 3 1 2\nmul 3 3 2\nsame 4 1 3\nzero 4 9\nset 5 7\nadd 0 0 5\nhalt\nmul 0 0 2\nin 6 0\nadd 0 0 6",
	// Its own title, rune by rune.
	"rune 1 0\nset 2 1\nadd 0 0 2\nset 3 17\nmul 4 4 3\nadd 4 4 1",
	// All operations.
	"set 1 3\nmov 2 1\nadd 3 3 2\nsub 4 4 3\nmul 5 3 4\ndiv 6 5 1\nless 7 4 3\nsame 8 7 1\nin 9 10\nload 11 9\nkeep 9 11\nrune 12 10\ntime 13\nadd 10 10 7\nadd 14 14 13\nadd 14 14 9\nzero 8 19\nadd 15 15 14\njump 20\nadd 16 16 14\nhalt\nset 20 5",
}

// noise gives numbers without a pattern that is short, always the same of one seed.
type noise uint32

func (n *noise) next(below int) int {
	*n = 1664525**n + 1013904223
	return int(uint64(*n^*n>>13) * uint64(below) >> 32)
}

// word is any number of 32 bits, a small one as often as a great one.
func (n *noise) word() int32 {
	if n.next(2) == 0 {
		return int32(n.next(80) - 40)
	}
	return int32(n.next(1 << 32))
}

func (n *noise) game() state.State {
	var s state.State
	for i := range s {
		s[i] = n.word()
	}
	return s
}

// presses are those of so many frames; players below 0 are 0 to 9, in each frame others.
func (n *noise) presses(many, players int) [][]byte {
	press := make([][]byte, many)
	for f := range press {
		of := players
		if players < 0 {
			of = n.next(10)
		}
		press[f] = make([]byte, of)
		for i := range press[f] {
			press[f][i] = byte(n.next(256))
		}
	}
	return press
}

// program is of operations without a pattern, all of which may be.
func (n *noise) program() api.Prog {
	p := api.Prog{Title: "any é", Ops: make([]api.Op, 1+n.next(api.MaxOps))}
	for i := range p.Ops {
		p.Ops[i] = n.op(len(p.Ops))
	}
	return p
}

// op is one of so many. Few cells are named, so that what one writes another one reads.
func (n *noise) op(many int) api.Op {
	cell := func() int { return n.next(1 + n.next(api.Cells)) }
	op := api.Op{Code: 1 + n.next(15), A: cell(), B: cell(), C: cell()}
	switch op.Code {
	case api.KSet:
		op.B, op.C = int(n.word()), 0
	case api.KJump:
		op.A, op.B, op.C = n.next(many+1), 0, 0
	case api.KZero:
		op.B, op.C = n.next(many+1), 0
	case api.KTime:
		op.B, op.C = 0, 0
	case api.KMov, api.KIn, api.KLoad, api.KKeep, api.KRune:
		op.C = 0
	}
	return op
}

func program(t *testing.T, text string) api.Prog {
	t.Helper()
	p, line, err := asm.Parse("title gé\n" + text)
	if err != api.OK || !check.May(p) {
		t.Fatalf("%q: line %d, %v, fault %d", text, line, err, check.Fault(p))
	}
	return p
}

func programs(t *testing.T) []api.Prog {
	t.Helper()
	var list []api.Prog
	for _, text := range texts {
		list = append(list, program(t, text))
	}
	return list
}

// games: zeros, and some of any cells.
func games() []state.State {
	n := noise(8)
	return []state.State{{}, {5}, {31: -1}, {0: math.MinInt32, 1: math.MaxInt32}, n.game(), n.game()}
}

// behind is the frame so many frames behind another one; where no int is so great, the one that is told alike.
func behind(frame, i int) int {
	if frame <= math.MaxInt-i {
		return frame + i
	}
	sum := new(big.Int).Add(big.NewInt(int64(frame)), big.NewInt(int64(i)))
	return int(sum.Mod(sum, big.NewInt(1<<32)).Int64())
}

// played are the games behind none of the frames, behind the first one, .. behind all, as the chapter says: vm.Step called frame by frame.
func played(p api.Prog, s state.State, frame int, press [][]byte) []state.State {
	list := []state.State{s}
	for i := 0; i < len(press); i++ {
		s = vm.Step(p, s, behind(frame, i), press[i])
		list = append(list, s)
	}
	return list
}

// short tells presses so that many of them stay on a line.
func short(press [][]byte) string {
	return fmt.Sprintf("%d frames %v", len(press), press[:min(len(press), 6)])
}

// fromHolds: From is as the chapter says.
func fromHolds(t *testing.T, p api.Prog, s state.State, frame int, press [][]byte) {
	t.Helper()
	want := played(p, s, frame, press)[len(press)]
	if got := From(p, s, frame, press); got != want {
		t.Fatalf("P20.1: From of %v, %v, frame %d, %s: %v, not %v", p.Ops, s, frame, short(press), got, want)
	}
}

// holds: All and Each are as the chapter says.
func holds(t *testing.T, p api.Prog, press [][]byte) {
	t.Helper()
	want := played(p, state.State{}, 0, press)
	if got := All(p, press); got != want[len(press)] {
		t.Fatalf("P20.1: All of %v, %s: %v, not %v", p.Ops, short(press), got, want[len(press)])
	}
	if got := From(p, state.State{}, 0, press); got != want[len(press)] {
		t.Fatalf("P20.1: From of zeros and frame 0 of %v, %s: %v, not %v", p.Ops, short(press), got, want[len(press)])
	}
	got := Each(p, press)
	if len(got) != len(press)+1 {
		t.Fatalf("P20.1: Each of %v, %s: %d games", p.Ops, short(press), len(got))
	}
	for i := range want {
		if got[i] != want[i] {
			t.Fatalf("P20.1: Each of %v, %s: the game behind %d frames is %v, not %v", p.Ops, short(press), i, got[i], want[i])
		}
	}
}

// What is told is written out: the cells 0 to 3 are the frames so far, what the players 0 and 1 pressed in all, and the frame's number.
func TestWrittenOut(t *testing.T) {
	p := program(t, "set 4 1\nin 5 6\nadd 1 1 5\nin 5 4\nadd 2 2 5\ntime 3\nadd 0 0 4")
	press := [][]byte{{3, 5}, {}, {10, 0}, {0, 200, 9}, {1}}
	each := Each(p, press)
	want := []string{"[0 0 0 0]", "[1 3 5 0]", "[2 3 5 1]", "[3 13 5 2]", "[4 13 205 3]", "[5 14 205 4]"}
	if len(each) != len(want) {
		t.Fatalf("P20.1: Each: %d games, not %d", len(each), len(want))
	}
	for i, s := range each {
		if got := fmt.Sprint(s[:4]); got != want[i] {
			t.Errorf("P20.1: Each: the game behind %d frames is %s, not %s", i, got, want[i])
		}
		all := All(p, press[:i])
		if got := fmt.Sprint(all[:4]); got != want[i] {
			t.Errorf("P20.1: All of %d frames: %s, not %s", i, got, want[i])
		}
	}
	for _, x := range []struct {
		s           state.State
		frame, many int
		want        string
	}{
		{state.State{}, 0, 5, "[5 14 205 4]"},
		{state.State{}, 7, 5, "[5 14 205 11]"},
		{state.State{9, 8, 7, 6}, 7, 0, "[9 8 7 6]"},
		{state.State{9, 8, 7, 6}, 7, 1, "[10 11 12 7]"},
		{state.State{9, 8, 7, 6}, 999, 4, "[13 21 212 1002]"},
		{state.State{-1, math.MaxInt32, -205, 6}, -4, 5, "[4 -2147483635 0 0]"},
		{state.State{}, math.MaxInt32, 2, "[2 3 5 -2147483648]"},
		{state.State{}, math.MaxInt, 1, "[1 3 5 -1]"},
		{state.State{}, math.MaxInt, 2, "[2 3 5 0]"},
		{state.State{}, math.MaxInt, 3, "[3 13 5 1]"},
		{state.State{}, math.MinInt, 3, "[3 13 5 2]"},
	} {
		s := From(p, x.s, x.frame, press[:x.many])
		if got := fmt.Sprint(s[:4]); got != x.want {
			t.Errorf("P20.1: From %v, frame %d, of %d frames: %s, not %s", x.s[:4], x.frame, x.many, got, x.want)
		}
	}
}

// Each frame's number is told: in a cell a frame.
func TestEachFrameHasItsNumber(t *testing.T) {
	p := program(t, "set 1 1\nadd 0 0 1\ntime 2\nkeep 0 2")
	for _, frame := range frames {
		s := From(p, state.State{0: 2}, frame, make([][]byte, 20))
		for i := range 20 {
			sum := new(big.Int).Add(big.NewInt(int64(frame)), big.NewInt(int64(i)))
			want := int32(uint32(sum.Mod(sum, big.NewInt(1<<32)).Int64()))
			if s[3+i] != want {
				t.Errorf("P20.1: From frame %d: the frame %d behind it is told as %d, not %d", frame, i, s[3+i], want)
			}
		}
	}
}

func TestFrom(t *testing.T) {
	n := noise(20)
	for _, p := range programs(t) {
		for _, s := range games() {
			for _, frame := range frames {
				for many := range 4 {
					fromHolds(t, p, s, frame, n.presses(many, -1))
				}
				fromHolds(t, p, s, frame, n.presses(12, 2+n.next(7)))
			}
		}
	}
}

func TestAllAndEach(t *testing.T) {
	n := noise(4)
	for _, p := range programs(t) {
		for players := range 13 {
			for _, many := range []int{0, 1, 2, 3, 8, 31, 70} {
				holds(t, p, n.presses(many, players))
			}
		}
		holds(t, p, n.presses(300, -1))
	}
}

func TestAnyPrograms(t *testing.T) {
	n := noise(2026)
	for k := range 1500 {
		p := n.program()
		if !check.May(p) {
			t.Fatalf("%d: %v may not run: %d", k, p.Ops, check.Fault(p))
		}
		press := n.presses(n.next(24), -1)
		fromHolds(t, p, n.game(), frames[n.next(len(frames))], press)
		fromHolds(t, p, n.game(), n.next(1001), press)
		holds(t, p, press)
	}
}

// As many frames as a match has, and more.
func TestManyFrames(t *testing.T) {
	n := noise(1000)
	for _, many := range []int{999, 1000, 1001, 2500} {
		press := n.presses(many, 8)
		for _, p := range programs(t) {
			holds(t, p, press)
			fromHolds(t, p, n.game(), 1, press)
		}
	}
	p := program(t, "set 1 1\nadd 0 0 1\ntime 2")
	if got, want := All(p, make([][]byte, 70000)), (state.State{70000, 1, 69999}); got != want {
		t.Errorf("P20.1: All of 70,000 frames: %v, not %v", got, want)
	}
	if got := Each(p, make([][]byte, 70000)); len(got) != 70001 || got[65537] != (state.State{65537, 1, 65536}) {
		t.Errorf("P20.1: Each of 70,000 frames: %d games", len(got))
	}
}

// Of no frames nothing is played: the game is as it was, whatever the program and the frame are.
func TestNoPresses(t *testing.T) {
	for _, p := range append(programs(t), wrong()...) {
		for _, press := range [][][]byte{nil, {}, make([][]byte, 0, 5)} {
			for _, s := range games() {
				for _, frame := range frames {
					if got := From(p, s, frame, press); got != s {
						t.Errorf("P20.1: From of no frames, frame %d: %v, not %v", frame, got, s)
					}
				}
			}
			if got := All(p, press); got != (state.State{}) {
				t.Errorf("P20.1: All of no frames: %v", got)
			}
			if got := Each(p, press); len(got) != 1 || got[0] != (state.State{}) {
				t.Errorf("P20.1: Each of no frames: %v", got)
			}
		}
	}
}

// A frame in which nobody presses is a frame, and nil is the same as empty, and here as noughts.
func TestNobodyPresses(t *testing.T) {
	for _, p := range programs(t) {
		for many := range 12 {
			none, empty, room, noughts := make([][]byte, many), make([][]byte, many), make([][]byte, many), make([][]byte, many)
			for i := range many {
				empty[i], room[i], noughts[i] = []byte{}, []byte{7, 8, 9}[:0], make([]byte, 1+i)
			}
			want := played(p, state.State{}, 0, none)
			for _, press := range [][][]byte{none, empty, room, noughts} {
				holds(t, p, press)
				if got := All(p, press); got != want[many] {
					t.Errorf("P0.4, P20.1: All of %v, %v: %v, not %v", p.Ops, press, got, want[many])
				}
				if got := Each(p, press); !slices.Equal(got, want) {
					t.Errorf("P0.4, P20.1: Each of %v, %v: %v, not %v", p.Ops, press, got, want)
				}
				fromHolds(t, p, games()[4], 9, press)
			}
		}
	}
	// Between others too: what is pressed behind it has its own frame.
	p := program(t, "in 1 0\ntime 2\nmul 3 1 2\nadd 4 4 3")
	if got := All(p, [][]byte{{1}, nil, {}, {5}, nil, {2}}); got[4] != 25 || got[2] != 5 {
		t.Errorf("P20.1: All with frames in which nobody presses: %v", got)
	}
}

// One press, two to eight, and more: each player's comes where it was, and in its own frame.
func TestPlayers(t *testing.T) {
	p := program(t, "set 2 31\nset 3 1\nin 4 1\nmul 5 5 2\nadd 5 5 4\nadd 1 1 3\nless 6 1 7\nzero 6 9\njump 2\nset 1 0")
	for players := range 20 {
		press := make([][]byte, 5)
		sum := int32(0)
		for f := range press {
			for i := range players {
				press[f] = append(press[f], byte(100*f+17*i+1))
			}
			for i := range max(players, 1) {
				sum *= 31
				if i < players {
					sum += int32(press[f][i])
				}
			}
		}
		s := state.State{7: int32(players)}
		if got := From(p, s, 3, press); got[5] != sum {
			t.Errorf("P20.1: of %d players: %d, not %d", players, got[5], sum)
		}
		fromHolds(t, p, s, 3, press)
		holds(t, p, press)
	}
	long := make([]byte, 5000)
	long[4999] = 3
	p = program(t, "set 1 4999\nin 2 1\nadd 0 0 2")
	if got := All(p, [][]byte{long, long[:4999], long}); got[0] != 6 {
		t.Errorf("P20.1: of 5,000 presses: %d", got[0])
	}
}

// Two parts played one behind the other are the whole in one.
func TestParts(t *testing.T) {
	n := noise(55)
	for _, p := range append(programs(t), n.program(), n.program(), n.program()) {
		press := n.presses(25, -1)
		whole, each := All(p, press), Each(p, press)
		for i := range 26 {
			if got := From(p, All(p, press[:i]), i, press[i:]); got != whole {
				t.Errorf("P20.1: All of %d frames and From there: %v, not %v", i, got, whole)
			}
			if got := From(p, each[i], i, press[i:]); got != whole {
				t.Errorf("P20.1: From Each's game behind %d frames: %v, not %v", i, got, whole)
			}
			if got := All(p, press[:i]); got != each[i] {
				t.Errorf("P20.1: All of %d frames: %v, not %v", i, got, each[i])
			}
			for _, frame := range []int{0, 5, -9, 999, math.MaxInt - 40, math.MinInt} {
				s := n.game()
				if got, want := From(p, From(p, s, frame, press[:i]), frame+i, press[i:]), From(p, s, frame, press); got != want {
					t.Errorf("P20.1: From frame %d, of %d frames and behind them: %v, not %v", frame, i, got, want)
				}
			}
		}
	}
}

// A beginning's games are the first ones of the whole's.
func TestEachOfABeginning(t *testing.T) {
	n := noise(6)
	press := n.presses(30, 4)
	for _, p := range programs(t) {
		each := Each(p, press)
		for i := range 31 {
			if got := Each(p, press[:i]); !slices.Equal(got, each[:i+1]) {
				t.Errorf("P20.1: Each of %d frames is not how that of 30 begins", i)
			}
		}
	}
}

// wrong are programs that may not run.
func wrong() []api.Prog {
	good := api.Op{Code: api.KTime, A: 3}
	return []api.Prog{
		{},
		{Title: "no operations"},
		{Title: "no operations", Ops: []api.Op{}},
		{Ops: []api.Op{good}},
		{Title: "a title of 21 runes..", Ops: []api.Op{good}},
		{Title: "\xff", Ops: []api.Op{good}},
		{Title: "65", Ops: slices.Repeat([]api.Op{good}, 65)},
		{Title: "a code", Ops: []api.Op{good, {Code: 16}}},
		{Title: "a code", Ops: []api.Op{good, {Code: -1}}},
		{Title: "a cell", Ops: []api.Op{good, {Code: api.KMov, A: 32}}},
		{Title: "a cell", Ops: []api.Op{good, {Code: api.KAdd, C: -1}}},
		{Title: "not taken", Ops: []api.Op{good, {Code: api.KMov, A: 1, C: 1}}},
		{Title: "a jump", Ops: []api.Op{good, {Code: api.KJump, A: 3}}},
		{Title: "a number", Ops: []api.Op{good, {Code: api.KSet, B: math.MaxInt}}},
	}
}

// Of a program that may not run each frame leaves the game as it is; so many frames they are all the same.
func TestProgramsThatMayNotRun(t *testing.T) {
	n := noise(7)
	for _, p := range wrong() {
		if check.May(p) {
			t.Fatalf("%v may run", p)
		}
		for many := range 12 {
			press := n.presses(many, -1)
			for _, s := range games() {
				for _, frame := range frames {
					if got := From(p, s, frame, press); got != s {
						t.Errorf("P20.1: From of %v, which may not run: %v, not %v", p, got, s)
					}
				}
			}
			if got := All(p, press); got != (state.State{}) {
				t.Errorf("P20.1: All of %v, which may not run: %v", p, got)
			}
			if got := Each(p, press); !slices.Equal(got, make([]state.State, many+1)) {
				t.Errorf("P20.1: Each of %v, which may not run, of %d frames: %v", p, many, got)
			}
		}
	}
}

// room is a list of frames with spare room, in itself and in each row.
func room() (whole, press [][]byte) {
	whole = [][]byte{[]byte("abcdef"), []byte("ghijkl"), []byte("mnopqr"), []byte("stuvwx"), []byte("yz0123")}
	for i := range whole {
		whole[i] = whole[i][:i]
	}
	return whole, whole[:4]
}

// spare is a list with its spare room.
func spare(b []byte) []byte { return b[:cap(b)] }

func TestWhatIsHandedInStays(t *testing.T) {
	n := noise(31)
	for _, p := range append(append(programs(t), n.program(), n.program()), wrong()...) {
		ops := append(slices.Clone(p.Ops), api.Op{Code: 99, A: -1}, api.Op{Code: api.KSet, B: 7})
		p.Ops = ops[:len(p.Ops)]
		whole, press := room()
		s := games()[4]
		oldOps, oldGame := slices.Clone(ops), s
		From(p, s, 3, press)
		All(p, press)
		Each(p, press)
		if !slices.Equal(ops, oldOps) || s != oldGame {
			t.Errorf("P0.3, P20.1: the program %v or its game is another one", p.Ops)
		}
		as, _ := room()
		for i := range as {
			if len(whole[i]) != len(as[i]) || !bytes.Equal(spare(whole[i]), spare(as[i])) {
				t.Errorf("P0.3, P20.1: the frame %d is %q, not %q", i, spare(whole[i]), spare(as[i]))
			}
		}
		// What lies in spare room is neither an operation, nor a press, nor a frame.
		cut := api.Prog{Title: p.Title, Ops: slices.Clone(oldOps[:len(p.Ops)])}
		tight := [][]byte{{}, []byte("g"), []byte("mn"), []byte("stu")}
		if got, want := From(p, s, 3, press), From(cut, s, 3, tight); got != want {
			t.Errorf("P20.1: From of %v with spare room: %v, not %v", p.Ops, got, want)
		}
		if !slices.Equal(Each(p, press), played(cut, state.State{}, 0, tight)) {
			t.Errorf("P20.1: Each of %v with spare room", p.Ops)
		}
	}
}

// All rows may be one and the same list.
func TestRowsMayBeShared(t *testing.T) {
	row := []byte("abc")
	for _, p := range programs(t) {
		shared, own := [][]byte{row, row[:1], row[1:], row, row[:0]}, [][]byte{[]byte("abc"), []byte("a"), []byte("bc"), []byte("abc"), nil}
		if got, want := All(p, shared), All(p, own); got != want {
			t.Errorf("P20.1: All of shared rows: %v, not %v", got, want)
		}
		holds(t, p, shared)
	}
}

// scribble writes over games and their spare room.
func scribble(list []state.State) {
	list = list[:cap(list)]
	for i := range list {
		for c := range list[i] {
			list[i][c] ^= 0x5a5a
		}
	}
}

func TestAnswersAreNew(t *testing.T) {
	n := noise(3)
	press := n.presses(9, 5)
	for _, p := range append(programs(t), wrong()...) {
		want := played(p, state.State{}, 0, press)
		kept, written := Each(p, press), Each(p, press)
		scribble(written)
		if !slices.Equal(kept, want) || !slices.Equal(Each(p, press), want) || All(p, press) != want[9] {
			t.Errorf("P0.3, P20.1: who writes into Each's answer changes another one")
		}
		// One game of an answer is none of its others.
		one := Each(p, press)
		for i := range one {
			scribble(one[i : i+1 : i+1])
			if !slices.Equal(one[i+1:], want[i+1:]) {
				t.Errorf("P0.3, P20.1: who writes into the game %d changes those behind it", i)
			}
		}
		for i := len(one) - 1; i >= 0; i-- {
			scribble(one[i : i+1 : i+1])
			if !slices.Equal(one[i:], want[i:]) {
				t.Errorf("P0.3, P20.1: who writes into the game %d changes another one", i)
			}
		}
		empty := Each(p, nil)
		scribble(empty)
		if again := Each(p, nil); len(again) != 1 || again[0] != (state.State{}) {
			t.Errorf("P0.3, P20.1: who writes into Each of none changes another one: %v", again)
		}
	}
}

// Presses aren't kept: what becomes of them changes no answer that is there already, and each answer is of them as they are then.
func TestPressesAreNotKept(t *testing.T) {
	p := program(t, texts[1])
	press := [][]byte{{1, 2}, {3, 4}, {5, 6}}
	want := played(p, state.State{}, 0, press)
	each := Each(p, press)
	press[1][0] = 77
	press[2] = nil
	if !slices.Equal(each, want) {
		t.Errorf("P0.3, P20.1: what becomes of the presses changes what Each told")
	}
	holds(t, p, press)
	if All(p, press) == want[3] {
		t.Errorf("P20.1: other presses, and the same game")
	}
}

// One call is as if no other one had been.
func TestNothingIsKept(t *testing.T) {
	n := noise(12)
	list := programs(t)
	press := n.presses(10, 3)
	for _, p := range list {
		all, each, from := All(p, press), Each(p, press), From(p, games()[5], 4, press)
		for _, other := range append(slices.Clone(list), wrong()...) {
			All(other, n.presses(5, 2))
			Each(other, n.presses(5, 8))
			From(other, n.game(), 90, n.presses(5, 2))
			if All(p, press) != all || From(p, games()[5], 4, press) != from || !slices.Equal(Each(p, press), each) {
				t.Fatalf("P0.5, P20.1: asked again it is another answer")
			}
		}
	}
}
