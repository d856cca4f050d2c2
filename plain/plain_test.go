package plain

import (
	"bytes"
	"encoding/binary"
	"fmt"
	"hash/crc32"
	"math"
	"slices"
	"strings"
	"testing"

	"quintain/api"
	"quintain/asm"
	"quintain/check"
	"quintain/core"
	"quintain/event"
	"quintain/fold"
	"quintain/guess"
	"quintain/net"
	"quintain/packet"
	"quintain/predict"
	"quintain/state"
)

// hashing hashes what eight players pressed, with the frame's number, and keeps that in a cell a frame: any other press, place or frame makes another game.
const hashing = "set 1 31\nset 2 0\nset 3 8\nin 4 2\nmul 0 0 1\nadd 0 0 4\nset 5 1\nadd 2 2 5\nless 6 2 3\nzero 6 11\njump 3\ntime 7\nmul 0 0 1\nadd 0 0 7\nset 8 24\nmul 8 8 5\nadd 8 8 7\nkeep 8 0"

// texts are programs that may run.
var texts = []string{
	hashing,
	// Nothing comes of it: as near as may be to a program of no operations.
	"halt",
	// Goes round, until the frame's operations are all done.
	"in 1 0\nadd 2 2 1\ntime 3\nadd 4 4 3\nadd 0 0 5\nset 5 1\njump 0",
	// Its numbers go round, with what the players 0 and 1 pressed.
	"set 1 65599\nmul 0 0 1\nin 2 3\nadd 0 0 2\nset 4 1\nmul 0 0 1\nin 2 4\nadd 0 0 2\nset 5 2147483647\nadd 6 6 5\nadd 6 6 0",
	// Reads what players press that are not there.
	"set 1 9\nin 2 1\nadd 0 0 2\nset 1 -1\nin 2 1\nadd 0 0 2\nset 1 1\nin 2 1\nadd 3 3 2\nadd 4 4 3",
	// Does other things at other frames, alone by what the frame's number is.
	"time 1\nset 2 2\ndiv 3 1 2\nmul 3 3 2\nsame 4 1 3\nzero 4 9\nset 5 7\nadd 0 0 5\nhalt\nmul 0 0 2\nin 6 0\nadd 0 0 6",
	// Its own title, rune by rune.
	"rune 1 0\nset 2 1\nadd 0 0 2\nset 3 17\nmul 4 4 3\nadd 4 4 1\nin 5 6\nadd 4 4 5",
}

// noise gives numbers without a pattern that is short, always the same of one seed.
type noise uint32

func (n *noise) next(below int) int {
	*n = 1664525**n + 1013904223
	return int(uint64(*n^*n>>13) * uint64(below) >> 32)
}

// bytes are below that number, 256 at most.
func (n *noise) bytes(count, below int) []byte {
	b := make([]byte, count)
	for i := range b {
		b[i] = byte(n.next(below))
	}
	return b
}

// some are the presses of a player's first frames, none of them 0, that go on differently from each other player's.
func some(player, count int) []byte {
	b := make([]byte, count)
	for i := range b {
		b[i] = byte(1 + (player*31+i*(player+1))%255)
	}
	return b
}

func program(t *testing.T, text string) api.Prog {
	t.Helper()
	p, line, err := asm.Parse("title gé\n" + text)
	if err != api.OK || !check.May(p) {
		t.Fatalf("%q: line %d, %v, fault %d", text, line, err, check.Fault(p))
	}
	return p
}

// usual is a conf that may be.
func usual(n, me, delay, window int) api.Conf {
	return api.Conf{N: n, Me: me, Id: 77, Delay: delay, Window: window, Guess: api.GLast, Room: 3}
}

// guessing is that conf with other guesses.
func guessing(c api.Conf, by predict.By) api.Conf {
	c.Guess, c.Order = by.Kind, by.Order
	return c
}

// bys are guesses of each kind.
func bys() []predict.By {
	return []predict.By{
		{Kind: api.GLast},
		{Kind: api.GMarkov},
		{Kind: api.GMarkov, Order: 1},
		{Kind: api.GMarkov, Order: 2},
		{Kind: api.GMarkov, Order: 3},
		{Kind: api.GTable, Table: []byte{9}},
		{Kind: api.GTable, Table: []byte{3, 1, 4, 1, 5}},
	}
}

// reading is a second reading of the chapter, over a core of its own that is told the same: what Press, Receive, Tick, Quit, Events and Closed answer is the core's, the rest is worked out of its queue.
type reading struct {
	k    *core.Core
	prog api.Prog
	by   predict.By
	game state.State // fold.All of the first `of` joint presses
	of   int
	sums []uint32 // the marks
}

// joint is what all pressed in each frame ahead of Front.
func (r *reading) joint() [][]byte {
	var press [][]byte
	for f := range r.k.Queue().Front() {
		all, _ := r.k.Queue().Joint(f)
		press = append(press, all)
	}
	return press
}

// mark lays the marks that are due, and plays all from the beginning if Front is another one.
func (r *reading) mark() {
	press := r.joint()
	if len(press) != r.of {
		r.game, r.of = fold.All(r.prog, press), len(press)
	}
	if r.k.Marks() >= len(press) {
		return
	}
	each := fold.Each(r.prog, press)
	for r.k.Marks() < len(press) {
		sum := each[r.k.Marks()+1].Sum()
		r.sums = append(r.sums, sum)
		r.k.Mark(sum)
	}
}

func (r *reading) press(b byte) api.Errno {
	err := r.k.Press(b)
	r.mark()
	return err
}

func (r *reading) receive(b []byte) api.Errno {
	err := r.k.Receive(b)
	r.mark()
	return err
}

func (r *reading) confirmed() ([]byte, int) { return r.game.Encode(), r.of }

func (r *reading) display() ([]byte, int) {
	head := r.k.Head()
	if head <= r.of {
		return r.confirmed()
	}
	return fold.From(r.prog, r.game, r.of, guess.Ahead(r.k.Queue(), r.by, 0, head)).Encode(), head
}

// both is a Plain beside its reading: each call is made of both, and the answers are held against each other.
type both struct {
	t       *testing.T
	x       *Plain
	r       reading
	isQuiet bool // what it shows is not asked behind each call
}

func start(t *testing.T, c api.Conf, p api.Prog, table []byte) *both {
	t.Helper()
	x, err := New(c, p, table)
	if x == nil || err != api.OK {
		t.Fatalf("P22.1: New(%v): %v", c, err)
	}
	k, err := core.New(c)
	if err != api.OK {
		t.Fatal(err)
	}
	b := &both{t: t, x: x, r: reading{k: k, prog: p, by: predict.By{Kind: c.Guess, Order: c.Order, Table: table}}}
	b.r.mark()
	b.same()
	return b
}

// hashed is a player of the program that hashes.
func hashed(t *testing.T, c api.Conf) *both {
	t.Helper()
	return start(t, c, program(t, hashing), nil)
}

// same: all that may be asked without changing anything.
func (b *both) same() {
	b.t.Helper()
	got, want := b.x.Core(), b.r.k
	if got.Conf() != want.Conf() || b.x.Closed() != want.Closed() || got.Closed() != want.Closed() {
		b.t.Fatalf("P22.1: a core of %v, closed %t, not %v, %t", got.Conf(), b.x.Closed(), want.Conf(), want.Closed())
	}
	if got.Head() != want.Head() || got.Marks() != want.Marks() || got.Queue().Front() != want.Queue().Front() {
		b.t.Fatalf("P22.1: Head %d, %d marks, Front %d, not %d, %d, %d", got.Head(), got.Marks(), got.Queue().Front(), want.Head(), want.Marks(), want.Queue().Front())
	}
	for p := range want.Conf().N {
		if !bytes.Equal(got.Queue().Line(p).All(), want.Queue().Line(p).All()) {
			b.t.Fatalf("P22.1: the line of %d: %v, not %v", p, got.Queue().Line(p).All(), want.Queue().Line(p).All())
		}
	}
	if !b.isQuiet {
		b.shown()
	}
}

// shown: the games that are shown, in each order in which they may be asked.
func (b *both) shown() {
	b.t.Helper()
	b.isGame("Confirmed", b.x.Confirmed, b.r.confirmed)
	b.isGame("Display", b.x.Display, b.r.display)
	b.isGame("Display", b.x.Display, b.r.display)
	b.isGame("Confirmed", b.x.Confirmed, b.r.confirmed)
}

func (b *both) isGame(what string, show, read func() ([]byte, int)) {
	b.t.Helper()
	got, n := show()
	want, m := read()
	if n != m || !bytes.Equal(got, want) {
		b.t.Fatalf("P22.1: %s, Head %d, Front %d: %d, %v, not %d, %v", what, b.r.k.Head(), b.r.of, n, got, m, want)
	}
}

func (b *both) press(v byte) api.Errno {
	b.t.Helper()
	got, want := b.x.Press(v), b.r.press(v)
	if got != want {
		b.t.Fatalf("P22.1: Press(%d): %v, not %v", v, got, want)
	}
	b.same()
	return got
}

func (b *both) bytes(x []byte) api.Errno {
	b.t.Helper()
	got, want := b.x.Receive(bytes.Clone(x)), b.r.receive(x)
	if got != want {
		b.t.Fatalf("P22.1: Receive(%v): %v, not %v", x, got, want)
	}
	b.same()
	return got
}

// receive hands in a packet to this player in this match.
func (b *both) receive(p api.Packet) api.Errno {
	b.t.Helper()
	c := b.r.k.Conf()
	p.To, p.Id = c.Me, c.Id
	return b.bytes(packet.Encode(p))
}

// input hands in what that player pressed.
func (b *both) input(from, first int, press ...byte) {
	b.t.Helper()
	if err := b.receive(api.Packet{Kind: api.PInput, From: from, First: first, Press: press}); err != api.OK {
		b.t.Fatalf("P22.1: Receive: %v", err)
	}
}

// word hands in what that player says of the game behind a frame.
func (b *both) word(from, frame int, sum uint32) {
	b.t.Helper()
	if err := b.receive(api.Packet{Kind: api.PInput, From: from, Frame: frame, Sum: sum}); err != api.OK {
		b.t.Fatalf("P22.1: Receive: %v", err)
	}
}

func (b *both) isTold(what string, got, want []net.Mail) {
	b.t.Helper()
	isSame := func(x, y net.Mail) bool { return x.From == y.From && x.To == y.To && bytes.Equal(x.B, y.B) }
	if !slices.EqualFunc(got, want, isSame) {
		b.t.Fatalf("P22.1: %s: %v, not %v", what, got, want)
	}
}

// tick tells what was told.
func (b *both) tick() []net.Mail {
	b.t.Helper()
	got := b.x.Tick()
	b.isTold("Tick", got, b.r.k.Tick())
	b.same()
	return got
}

func (b *both) quit() []net.Mail {
	b.t.Helper()
	got := b.x.Quit()
	b.isTold("Quit", got, b.r.k.Quit())
	b.same()
	return got
}

// told are the events as texts.
func told(events []event.Event) []string {
	var texts []string
	for _, e := range events {
		texts = append(texts, event.Text(e))
	}
	return texts
}

// events tells what happened, which is the reading's.
func (b *both) events() []string {
	b.t.Helper()
	got, want := told(b.x.Events()), told(b.r.k.Events())
	if !slices.Equal(got, want) {
		b.t.Fatalf("P22.1: Events: %q, not %q", got, want)
	}
	if again := b.x.Events(); len(again) != 0 {
		b.t.Fatalf("P22.1: Events behind Events: %q", told(again))
	}
	b.same()
	return got
}

// happened: just that, since it was asked last.
func (b *both) happened(want ...string) {
	b.t.Helper()
	if got := b.events(); !slices.Equal(got, want) {
		b.t.Fatalf("P22.1: Events: %q, not %q", got, want)
	}
}

// marked: each mark is the sum of the game behind its frame. A player that said no word so far says a word of each, rising, and nothing happens; that its words are held at all, a wrong one behind them shows.
func (b *both) marked(witness int) {
	b.t.Helper()
	sums := b.r.sums
	for i, sum := range sums {
		b.word(witness, i+1, sum)
		if got := b.events(); len(got) != 0 {
			b.t.Fatalf("P22.1: the mark %d is not %08x: %q", i+1, sum, got)
		}
	}
	if n := len(sums); n > 0 {
		b.word(witness, n, ^sums[n-1])
		b.happened(fmt.Sprintf("apart %d %d", witness, n))
	}
}

// others are all players but Me.
func (b *both) others() []int {
	c := b.r.k.Conf()
	var others []int
	for p := range c.N {
		if p != c.Me {
			others = append(others, p)
		}
	}
	return others
}

func (b *both) known(p int) int { return b.r.k.Queue().Line(p).Len() }

// feed lets that player's line grow to that many frames.
func (b *both) feed(p, upTo int) {
	b.t.Helper()
	all := some(p, 1000)
	for n := b.known(p); n < upTo; n = b.known(p) {
		b.input(p, n, all[n:min(n+32, upTo)]...)
	}
}

// lead lets Me press up to that many frames.
func (b *both) lead(head int) {
	b.t.Helper()
	all := some(b.r.k.Conf().Me, 1000)
	for n := b.r.k.Head(); n < head; n++ {
		if err := b.press(all[n]); err != api.OK {
			b.t.Fatalf("P22.1: Press at %d: %v", n, err)
		}
	}
}

// cells are the first numbers of a game's bytes.
func cells(t *testing.T, b []byte, count int) []int32 {
	t.Helper()
	if len(b) != 128 {
		t.Fatalf("P22.1: %d bytes are no game", len(b))
	}
	var list []int32
	for i := range count {
		list = append(list, int32(binary.BigEndian.Uint32(b[4*i:])))
	}
	return list
}

// isShown: written out, the first cells of what is confirmed and of what is displayed.
func isShown(t *testing.T, x *Plain, front int, confirmed []int32, head int, display []int32) {
	t.Helper()
	b, n := x.Confirmed()
	if got := cells(t, b, len(confirmed)); n != front || !slices.Equal(got, confirmed) {
		t.Errorf("P22.1: Confirmed: %d, %v, not %d, %v", n, got, front, confirmed)
	}
	b, n = x.Display()
	if got := cells(t, b, len(display)); n != head || !slices.Equal(got, display) {
		t.Errorf("P22.1: Display: %d, %v, not %d, %v", n, got, head, display)
	}
}

// adding has, from the cell 0 on: what the players 0 and 1 pressed in all, the last frame's number, how many frames there were.
const adding = "set 4 0\nin 5 4\nadd 0 0 5\nset 4 1\nin 5 4\nadd 1 1 5\ntime 2\nadd 3 3 4\nset 4 0\nset 5 0"

// All is written out: two players, one frame in which nobody presses.
func TestWrittenOut(t *testing.T) {
	x, err := New(usual(2, 0, 1, 3), program(t, adding), nil)
	if err != api.OK {
		t.Fatal(err)
	}
	from1 := func(first int, press ...byte) {
		t.Helper()
		p := api.Packet{Kind: api.PInput, From: 1, To: 0, Id: 77, First: first, Press: press}
		if err := x.Receive(packet.Encode(p)); err != api.OK {
			t.Errorf("P22.1: Receive: %v", err)
		}
	}
	isMarked := func(frame int, confirmed []int32) {
		t.Helper()
		var game [128]byte
		for i, v := range confirmed {
			binary.BigEndian.PutUint32(game[4*i:], uint32(v))
		}
		mails := x.Tick()
		if len(mails) != 1 || mails[0].From != 0 || mails[0].To != 1 {
			t.Fatalf("P22.1: Tick: %v", mails)
		}
		p, err := packet.Decode(mails[0].B)
		if err != api.OK || p.Frame != frame || p.Sum != crc32.ChecksumIEEE(game[:]) {
			t.Errorf("P22.1: Tick tells %v, not the frame %d", p, frame)
		}
	}
	isShown(t, x, 1, []int32{0, 0, 0, 1}, 1, []int32{0, 0, 0, 1})
	isMarked(1, []int32{0, 0, 0, 1})
	x.Press(5)
	isShown(t, x, 1, []int32{0, 0, 0, 1}, 2, []int32{5, 0, 1, 2})
	x.Press(6)
	isShown(t, x, 1, []int32{0, 0, 0, 1}, 3, []int32{11, 0, 2, 3})
	from1(1, 7)
	isShown(t, x, 2, []int32{5, 7, 1, 2}, 3, []int32{11, 14, 2, 3})
	isMarked(2, []int32{5, 7, 1, 2})
	from1(2, 40, 50, 60)
	isShown(t, x, 3, []int32{11, 47, 2, 3}, 3, []int32{11, 47, 2, 3})
	x.Press(100)
	x.Press(200)
	isShown(t, x, 5, []int32{311, 157, 4, 5}, 5, []int32{311, 157, 4, 5})
	isMarked(5, []int32{311, 157, 4, 5})
	x.Press(1)
	isShown(t, x, 5, []int32{311, 157, 4, 5}, 6, []int32{312, 217, 5, 6})
	isMarked(5, []int32{311, 157, 4, 5})
}

// Each kind of guesses is written out: the player 1 pressed a line, and three frames are guessed behind it.
func TestGuessesWrittenOut(t *testing.T) {
	for _, x := range []struct {
		by   predict.By
		line []byte
		sums [3]int32 // of the guesses, one behind the other
	}{
		{predict.By{Kind: api.GLast}, []byte{9, 5}, [3]int32{5, 10, 15}},
		{predict.By{Kind: api.GMarkov}, []byte{7, 9, 9, 7, 9, 4}, [3]int32{9, 18, 27}},
		{predict.By{Kind: api.GMarkov, Order: 1}, []byte{3, 9, 3, 8, 3, 8, 3}, [3]int32{8, 11, 19}},
		{predict.By{Kind: api.GMarkov, Order: 2}, []byte{1, 2, 3, 1, 4, 5, 1, 2}, [3]int32{3, 4, 8}},
		{predict.By{Kind: api.GMarkov, Order: 3}, []byte{1, 2, 3, 9, 2, 3, 4, 1, 2, 3}, [3]int32{9, 11, 14}},
		{predict.By{Kind: api.GTable, Table: []byte{10, 20, 40, 80}}, []byte{1, 2}, [3]int32{40, 120, 130}},
	} {
		p, err := New(guessing(usual(2, 0, 0, 16), x.by), program(t, adding), x.by.Table)
		if err != api.OK {
			t.Fatal(err)
		}
		pressed := int32(0)
		for f, v := range x.line {
			p.Press(byte(f))
			pressed += int32(v)
		}
		p.Receive(packet.Encode(api.Packet{Kind: api.PInput, From: 1, To: 0, Id: 77, Press: x.line}))
		n := len(x.line)
		for i, sum := range x.sums {
			p.Press(0)
			head := n + i + 1
			all := int32(n * (n - 1) / 2)
			isShown(t, p, n, []int32{all, pressed, int32(n - 1), int32(n)}, head, []int32{all, pressed + sum, int32(head - 1), int32(head)})
		}
	}
}

// What New says of any conf, program and table.
func mayBe(t *testing.T, what string, c api.Conf, p api.Prog, table []byte, want bool) {
	t.Helper()
	if want {
		b := start(t, c, p, table)
		b.happened()
		return
	}
	if x, err := New(c, p, table); x != nil || err != api.ErrForm {
		t.Errorf("P22.1: New, %s: %v, %v", what, x != nil, err)
	}
}

// A conf that may not be, alone: each number at its ends and beyond.
func TestNewConf(t *testing.T) {
	p := program(t, hashing)
	for _, f := range []struct {
		name      string
		low, high int
		set       func(c *api.Conf, n int)
	}{
		{"N", 2, 8, func(c *api.Conf, n int) { c.N = n }},
		{"Me", 0, 1, func(c *api.Conf, n int) { c.Me = n }},
		{"Id", 0, 1 << 40, func(c *api.Conf, n int) { c.Id = int64(n) }},
		{"Delay", 0, 8, func(c *api.Conf, n int) { c.Delay = n }},
		{"Window", 1, 16, func(c *api.Conf, n int) { c.Window = n }},
		{"Guess", 1, 2, func(c *api.Conf, n int) { c.Guess = n }},
		{"Order", 0, 0, func(c *api.Conf, n int) { c.Order = n }},
		{"Branches", 0, 8, func(c *api.Conf, n int) { c.Branches = n }},
		{"Workers", 0, 4, func(c *api.Conf, n int) { c.Workers = n }},
		{"Room", 3, 50, func(c *api.Conf, n int) { c.Room = n }},
	} {
		for _, n := range []int{f.low - 1, f.low, f.high, f.high + 1, f.low - 256, f.low + 1<<48, math.MinInt, math.MaxInt} {
			c := usual(2, 0, 0, 4)
			f.set(&c, n)
			mayBe(t, fmt.Sprint(f.name, n), c, p, nil, n >= f.low && n <= f.high)
		}
	}
	for n := 2; n <= 8; n++ {
		for me := -1; me <= 8; me++ {
			mayBe(t, "Me", usual(n, me, 0, 4), p, nil, me >= 0 && me < n)
		}
	}
	mayBe(t, "a zero Conf", api.Conf{}, p, nil, false)
}

// A program that may not be, alone: what can't be written, and operations that may not be.
func TestNewProgram(t *testing.T) {
	halts := func(n int) []api.Op { return make([]api.Op, n) }
	for _, x := range []struct {
		p    api.Prog
		want bool
	}{
		{api.Prog{}, false},
		{api.Prog{Title: "go"}, false},
		{api.Prog{Title: "go", Ops: []api.Op{}}, false},
		{api.Prog{Title: "go", Ops: halts(1)}, true},
		{api.Prog{Title: "go", Ops: halts(64)}, true},
		{api.Prog{Title: "go", Ops: halts(65)}, false},
		{api.Prog{Title: "", Ops: halts(1)}, false},
		{api.Prog{Title: "\xff", Ops: halts(1)}, false},
		{api.Prog{Title: strings.Repeat("é", 20), Ops: halts(1)}, true},
		{api.Prog{Title: strings.Repeat("é", 21), Ops: halts(1)}, false},
		{api.Prog{Title: "go", Ops: []api.Op{{Code: 16}}}, false},
		{api.Prog{Title: "go", Ops: []api.Op{{Code: -1}}}, false},
		{api.Prog{Title: "go", Ops: []api.Op{{A: 1}}}, false},
		{api.Prog{Title: "go", Ops: []api.Op{{}, {Code: api.KTime, A: 32}}}, false},
		{api.Prog{Title: "go", Ops: []api.Op{{}, {Code: api.KTime, A: 31}}}, true},
		{api.Prog{Title: "go", Ops: []api.Op{{}, {Code: api.KJump, A: 2}}}, true},
		{api.Prog{Title: "go", Ops: []api.Op{{}, {Code: api.KJump, A: 3}}}, false},
		{api.Prog{Title: "go", Ops: []api.Op{{Code: api.KSet, B: 1 << 31}}}, false},
		{api.Prog{Title: "go", Ops: []api.Op{{Code: api.KSet, B: -1 << 31}}}, true},
	} {
		mayBe(t, fmt.Sprintf("%+q, %v", x.p.Title, x.p.Ops), usual(2, 0, 0, 4), x.p, nil, x.want)
	}
}

// Guesses that may not be, alone: kind, order and table, and what may be of each.
func TestNewGuess(t *testing.T) {
	p := program(t, hashing)
	for guess := -1; guess <= 5; guess++ {
		for order := -1; order <= 5; order++ {
			for _, size := range []int{0, 1, 2, 999, 1000, 1001, 5000} {
				c := guessing(usual(2, 0, 2, 4), predict.By{Kind: guess, Order: order})
				isMarkov := guess == api.GMarkov && order >= 0 && order <= 3
				mayOrder := isMarkov || order == 0 && (guess == api.GLast || guess == api.GTable)
				mayTable := size == 0
				if guess == api.GTable {
					mayTable = size >= 1 && size <= 1000
				}
				mayBe(t, fmt.Sprint("guess ", guess, order, size), c, p, make([]byte, size), mayOrder && mayTable)
			}
		}
	}
	mayBe(t, "no table", guessing(usual(2, 0, 0, 4), predict.By{Kind: api.GTable}), p, nil, false)
	mayBe(t, "an empty table", usual(2, 0, 0, 4), p, []byte{}, true)
}

// Two things that may not be are none that may be.
func TestNewTwo(t *testing.T) {
	p := program(t, hashing)
	mayBe(t, "conf and program", usual(1, 0, 0, 4), api.Prog{}, nil, false)
	mayBe(t, "conf and table", usual(2, 2, 0, 4), p, []byte{1}, false)
	mayBe(t, "program and table", usual(2, 0, 0, 4), api.Prog{}, []byte{1}, false)
	mayBe(t, "all", api.Conf{}, api.Prog{}, []byte{1}, false)
}

// New lays the marks of the frames in which nobody presses: none of Delay 0, one a frame of others.
func TestNewMarks(t *testing.T) {
	for _, text := range texts {
		for delay := range 9 {
			n := 2 + delay%7
			b := start(t, usual(n, delay%n, delay, 4), program(t, text), nil)
			game := fold.All(b.r.prog, slices.Repeat([][]byte{make([]byte, n)}, delay))
			got, front := b.x.Confirmed()
			if front != delay || b.x.Core().Marks() != delay || !bytes.Equal(got, game.Encode()) {
				t.Errorf("P22.1: New of Delay %d: %d marks, Confirmed %d", delay, b.x.Core().Marks(), front)
			}
			told, err := packet.Decode(b.tick()[0].B)
			if err != api.OK || told.Frame != delay || delay > 0 && told.Sum != game.Sum() || delay == 0 && told.Sum != 0 {
				t.Errorf("P22.1: New of Delay %d tells the mark %d, %08x", delay, told.Frame, told.Sum)
			}
			b.happened()
			b.marked(b.others()[n-2])
		}
	}
}

// A word of a frame of New's own is held at once.
func TestNewMarksApart(t *testing.T) {
	for frame := 1; frame <= 4; frame++ {
		b := hashed(t, usual(3, 1, 3, 4))
		b.word(2, frame, 12345)
		if frame <= 3 {
			b.happened(fmt.Sprintf("apart 2 %d", frame))
			continue
		}
		b.happened()
		b.press(1)
		b.feed(0, 4)
		b.happened()
		b.feed(2, 4)
		b.happened("apart 2 4")
	}
}

// Head at Front, one above it, and so on to Window above it, for each window, each kind of guesses, and each number of players.
func TestWindow(t *testing.T) {
	for window := 1; window <= 16; window++ {
		for i, by := range bys() {
			n := 2 + (window+i)%7
			c := guessing(usual(n, (window*3+i)%n, []int{0, 0, 3, 8}[(window+i)%4], window), by)
			b := start(t, c, program(t, hashing), by.Table)
			for round := range 2 {
				for _, p := range b.others() {
					b.feed(p, b.r.k.Head())
				}
				front := b.r.of
				if _, head := b.x.Display(); head != front {
					t.Fatalf("P22.1: Head at Front: Display of %d, not %d", head, front)
				}
				for k := 1; k <= window; k++ {
					if err := b.press(byte(k*k + round)); err != api.OK {
						t.Fatalf("P22.1: Press %d of a window of %d: %v", k, window, err)
					}
					if _, head := b.x.Display(); head != front+k || b.r.of != front {
						t.Fatalf("P22.1: %d above Front: Display of %d, not %d", k, head, front+k)
					}
				}
				if err := b.press(1); err != api.ErrStall {
					t.Fatalf("P22.1: Press beyond a window of %d: %v", window, err)
				}
			}
			b.happened()
		}
	}
}

// What is known of others ahead of Me's own is not shown: Display is Confirmed, Front is Head.
func TestOthersAhead(t *testing.T) {
	b := hashed(t, usual(3, 1, 0, 4))
	b.feed(0, 20)
	b.feed(2, 30)
	for head := range 20 {
		got, n := b.x.Display()
		want, front := b.x.Confirmed()
		if n != head || front != head || !bytes.Equal(got, want) {
			t.Errorf("P22.1: Display %d, Confirmed %d, not %d", n, front, head)
		}
		// The press brings Front on, and so lays a mark.
		b.lead(head + 1)
		if b.x.Core().Marks() != head+1 {
			t.Errorf("P22.1: %d marks behind %d presses", b.x.Core().Marks(), head+1)
		}
	}
	b.lead(24)
	if b.x.Core().Marks() != 20 {
		t.Errorf("P22.1: %d marks of 20 frames", b.x.Core().Marks())
	}
	b.happened()
	b.marked(2)
}

// Frames of which some are known: what is known is shown, the rest is guessed.
func TestPartlyKnown(t *testing.T) {
	for _, by := range bys() {
		for n := 3; n <= 8; n++ {
			b := start(t, guessing(usual(n, n/2, 0, 12), by), program(t, hashing), by.Table)
			b.lead(9)
			for i, p := range b.others() {
				b.feed(p, 3+2*i)
			}
			if b.r.of != 3 {
				t.Fatalf("Front %d", b.r.of)
			}
			ahead := guess.Ahead(b.r.k.Queue(), by, 0, 9)
			for i, p := range b.others() {
				for f := 3; f < min(3+2*i, 9); f++ {
					if ahead[f-3][p] != some(p, 10)[f] {
						t.Errorf("the frame %d of %d is guessed", f, p)
					}
				}
			}
			b.lead(15)
			b.shown()
		}
	}
}

// A packet that brings Front on by none, by one and by many at once: as many marks, each of its own frame.
func TestFrontGoesOn(t *testing.T) {
	for _, text := range texts {
		for many := range 17 {
			b := start(t, usual(3, 0, 2, 16), program(t, text), nil)
			b.lead(18)
			b.feed(1, 2+many)
			if b.x.Core().Marks() != 2 {
				t.Errorf("P22.1: %d marks, while one is not heard", b.x.Core().Marks())
			}
			b.input(2, 2, some(2, 20)...)
			if got := b.x.Core().Marks(); got != 2+many {
				t.Errorf("P22.1: %d marks behind %d frames at once", got, 2+many)
			}
			b.input(2, 2)
			b.happened()
			b.marked(1)
		}
	}
}

// Packets that come late, twice, over one another and ahead of a gap.
func TestPacketsInAnyOrder(t *testing.T) {
	b := hashed(t, usual(2, 0, 0, 16))
	all := some(1, 60)
	b.lead(16)
	isAt := func(front int) {
		t.Helper()
		if got := b.x.Core().Marks(); b.r.of != front || got != front {
			t.Fatalf("P22.1: Front %d, %d marks, not %d", b.r.of, got, front)
		}
	}
	part := func(from, to int) { t.Helper(); b.input(1, from, all[from:to]...) }
	part(1, 5)
	isAt(0)
	part(0, 4)
	isAt(4)
	part(0, 4)
	isAt(4)
	part(1, 5)
	isAt(5)
	part(0, 2)
	isAt(5)
	part(3, 9)
	isAt(9)
	part(10, 16)
	isAt(9)
	part(5, 5)
	isAt(9)
	// What is known stays, whatever comes behind it.
	b.input(1, 8, 99, 99)
	isAt(10)
	all[9] = 99
	b.input(1, 2, 1, 2, 3)
	isAt(10)
	part(0, 32)
	isAt(16)
	b.happened()
	b.marked(1)
}

// What was displayed as guessed is what comes to be confirmed, if all guesses come true; if one is another one, it is not.
func TestGuessesComeTrue(t *testing.T) {
	for i, by := range bys() {
		for n := 2; n <= 8; n++ {
			for _, wrong := range []int{-1, 0, 3, 5} {
				b := start(t, guessing(usual(n, (n+i)%n, i%3, 6), by), program(t, hashing), by.Table)
				for _, p := range b.others() {
					b.feed(p, 20)
				}
				b.lead(20)
				b.lead(26)
				was, head := b.x.Display()
				ahead := guess.Ahead(b.r.k.Queue(), by, 0, 26)
				for _, p := range b.others() {
					var press []byte
					for f, all := range ahead {
						v := all[p]
						if f == wrong && p == b.others()[n-2] {
							v++
						}
						press = append(press, v)
					}
					b.input(p, 20, press...)
				}
				got, front := b.x.Confirmed()
				if head != 26 || front != 26 || bytes.Equal(got, was) != (wrong < 0) {
					t.Errorf("P22.1: %v of %d, wrong at %d: Display was of %d, Confirmed is of %d, the same: %t", by, n, wrong, head, front, bytes.Equal(got, was))
				}
			}
		}
	}
}

// A word that is its mark, and one that is another one, ahead of its mark and behind it: at which of the calls it is told.
func TestWords(t *testing.T) {
	games := fold.Each(program(t, hashing), joined(3, 10))
	for frame := 1; frame <= 8; frame++ {
		for _, isRight := range []bool{true, false} {
			b := hashed(t, usual(3, 1, 0, 12))
			sum := games[frame].Sum()
			var want []string
			if !isRight {
				// The one ahead of it: so that a mark that is one too late is seen.
				sum = games[frame-1].Sum()
				want = []string{fmt.Sprintf("apart 2 %d", frame)}
			}
			b.lead(8)
			b.feed(0, 8)
			b.feed(2, 3)
			b.word(2, frame, sum)
			if frame <= 3 {
				b.happened(want...)
				want = nil
			}
			b.happened()
			b.feed(2, 5)
			if frame <= 5 {
				b.happened(want...)
				want = nil
			}
			b.happened()
			b.feed(2, 8)
			b.happened(want...)
		}
	}
}

// joined is what all press in the first frames.
func joined(players, frames int) [][]byte {
	press := make([][]byte, frames)
	for f := range press {
		for p := range players {
			press[f] = append(press[f], some(p, frames)[f])
		}
	}
	return press
}

// A word that comes with the presses that bring Front to it, and one that a press of Me's own brings to its mark.
func TestWordsAtOnce(t *testing.T) {
	games := fold.Each(program(t, hashing), joined(2, 10))
	for _, isRight := range []bool{true, false} {
		sum := games[6].Sum()
		var want []string
		if !isRight {
			sum, want = sum+1, []string{"apart 1 6"}
		}
		p := api.Packet{Kind: api.PInput, From: 1, Press: some(1, 10), Frame: 6, Sum: sum}
		b := hashed(t, usual(2, 0, 0, 12))
		b.lead(9)
		b.receive(p)
		b.happened(want...)
		b = hashed(t, usual(2, 0, 0, 12))
		b.receive(p)
		b.lead(5)
		b.happened()
		b.lead(6)
		b.happened(want...)
		b.lead(9)
		b.happened()
	}
}

// Marks are laid one behind the other: of words that come to be held in one call, those of lesser frames are told first.
func TestWordsInOrder(t *testing.T) {
	b := hashed(t, usual(5, 2, 0, 12))
	b.lead(10)
	for p, frame := range map[int]int{0: 4, 1: 7, 3: 2, 4: 4} {
		b.word(p, frame, 9)
	}
	for _, p := range []int{0, 1, 4} {
		b.feed(p, 10)
	}
	b.happened()
	b.feed(3, 10)
	b.happened("apart 3 2", "apart 0 4", "apart 4 4", "apart 1 7")
}

// A thousand frames: so many marks, each the sum of the game behind its frame.
func TestThousand(t *testing.T) {
	for _, delay := range []int{0, 5} {
		b := hashed(t, usual(3, 0, delay, 16))
		b.isQuiet = true
		for b.r.k.Head() < 1000 {
			head := min(b.r.k.Head()+13, 1000)
			b.lead(head)
			if head%3 != 0 || head == 1000 {
				b.shown()
			}
			b.feed(1, min(head+5, 1000))
			b.feed(2, head)
		}
		if err := b.press(1); err != api.ErrFull {
			t.Errorf("P22.1: Press at 1,000: %v", err)
		}
		b.input(1, 999, 1, 2, 3)
		b.shown()
		_, head := b.x.Display()
		if _, front := b.x.Confirmed(); head != 1000 || front != 1000 || b.x.Core().Marks() != 1000 {
			t.Errorf("P22.1: Confirmed %d, Display %d, %d marks", front, head, b.x.Core().Marks())
		}
		told, err := packet.Decode(b.tick()[0].B)
		want, _ := b.x.Confirmed()
		if err != api.OK || told.Frame != 1000 || told.Sum != crc32.ChecksumIEEE(want) {
			t.Errorf("P22.1: a thousand marks: %v", told)
		}
		b.happened()
		b.marked(2)
	}
}

// The last frames ahead of the thousandth: those that are guessed end there.
func TestWindowAtTheEnd(t *testing.T) {
	for _, by := range bys() {
		b := start(t, guessing(usual(2, 1, 0, 16), by), program(t, texts[3]), by.Table)
		b.isQuiet = true
		for head := 12; head <= 984; head += 12 {
			b.lead(head)
			b.feed(0, head)
		}
		b.lead(1000)
		b.shown()
		if _, head := b.x.Display(); head != 1000 || b.r.of != 984 {
			t.Errorf("P22.1: Display of %d, Front %d", head, b.r.of)
		}
		b.feed(0, 1000)
		b.shown()
	}
}

// refused are bytes that are for no player 1 of three in the match 77.
func refused() [][]byte {
	good := api.Packet{Kind: api.PInput, From: 2, To: 1, Id: 77, First: 1, Press: []byte{1, 2, 3}, Frame: 1, Sum: 5}
	list := [][]byte{nil, {}, {1}, {1, 2, 3}, make([]byte, 60), bytes.Repeat([]byte{255}, 500)}
	for _, change := range []func(p *api.Packet){
		func(p *api.Packet) { p.To = 0 },
		func(p *api.Packet) { p.From = 3 },
		func(p *api.Packet) { p.From = 7 },
		func(p *api.Packet) { p.Id = 76 },
		func(p *api.Packet) { *p = api.Packet{Kind: api.PQuit, From: 2, To: 0, Id: 77} },
		func(p *api.Packet) { *p = api.Packet{Kind: api.PQuit, From: 4, To: 1, Id: 77} },
		func(p *api.Packet) { *p = api.Packet{Kind: api.PQuit, From: 2, To: 1, Id: 78} },
	} {
		p := good
		change(&p)
		list = append(list, packet.Encode(p))
	}
	whole := packet.Encode(good)
	for i := range whole {
		spoilt := bytes.Clone(whole)
		spoilt[i] ^= 1
		list = append(list, spoilt, whole[:i])
	}
	return append(list, append(bytes.Clone(whole), 0))
}

// What is refused changes nothing.
func TestReceiveRefused(t *testing.T) {
	b := hashed(t, usual(3, 1, 1, 8))
	b.feed(0, 9)
	b.feed(2, 4)
	b.lead(7)
	confirmed, front := b.x.Confirmed()
	display, head := b.x.Display()
	for _, x := range refused() {
		if err := b.bytes(x); err != api.ErrForm {
			t.Errorf("P22.1: Receive(%v): %v", x, err)
		}
		got, n := b.x.Confirmed()
		shown, m := b.x.Display()
		if n != front || m != head || !bytes.Equal(got, confirmed) || !bytes.Equal(shown, display) || b.x.Core().Marks() != front {
			t.Fatalf("P22.1: behind what is refused: Confirmed %d, Display %d", n, m)
		}
	}
	b.happened()
	// Nobody was heard by it: both others are late at the same tick as if nothing had come.
	for i := range 41 {
		b.tick()
		b.bytes([]byte{1, 2})
		if b.x.Closed() != (i >= 39) {
			t.Fatalf("P22.1: closed %t at the tick %d", b.x.Closed(), i+1)
		}
	}
	b.happened("late 0")
	b.quit()
}

// closings are the three ways in which a player comes to be closed.
var closings = []struct {
	name  string
	event []string
	close func(b *both)
}{
	{"Quit", nil, func(b *both) { b.quit() }},
	{"PQuit", []string{"quit 2"}, func(b *both) { b.receive(api.Packet{Kind: api.PQuit, From: 2}) }},
	{"Late", []string{"late 0"}, func(b *both) {
		for range 40 {
			b.tick()
		}
	}},
}

// All calls of a closed player: what is known and shown stays.
func TestClosed(t *testing.T) {
	for _, x := range closings {
		for ahead := range 4 {
			b := hashed(t, usual(3, 1, 1, 6))
			b.feed(0, 6)
			b.feed(2, 5)
			b.lead(5 + ahead)
			b.happened()
			confirmed, front := b.x.Confirmed()
			display, head := b.x.Display()
			x.close(b)
			b.happened(x.event...)
			for range 2 {
				b.refusesAll(x.name)
				got, n := b.x.Confirmed()
				shown, m := b.x.Display()
				if n != front || m != head || !bytes.Equal(got, confirmed) || !bytes.Equal(shown, display) || b.x.Core().Marks() != 5 {
					t.Errorf("P22.1: behind %s: Confirmed %d, Display %d, %d marks", x.name, n, m, b.x.Core().Marks())
				}
			}
		}
	}
}

// refusesAll: it is closed, however it is called.
func (b *both) refusesAll(name string) {
	b.t.Helper()
	if !b.x.Closed() {
		b.t.Errorf("P22.1: behind %s: not closed", name)
	}
	if err := b.press(9); err != api.ErrClosed {
		b.t.Errorf("P22.1: Press behind %s: %v", name, err)
	}
	for _, p := range []api.Packet{
		{Kind: api.PInput, From: 2, First: 5, Press: []byte{1, 2, 3}, Ack: 5, Frame: 1, Sum: 3},
		{Kind: api.PInput, From: 0, First: 6, Press: []byte{1}},
		{Kind: api.PQuit, From: 0},
	} {
		if err := b.receive(p); err != api.ErrClosed {
			b.t.Errorf("P22.1: Receive behind %s: %v", name, err)
		}
	}
	for _, x := range refused() {
		if err := b.bytes(x); err != api.ErrClosed {
			b.t.Errorf("P22.1: Receive behind %s: %v", name, err)
		}
	}
	for range 3 {
		if told := append(b.tick(), b.quit()...); len(told) != 0 {
			b.t.Errorf("P22.1: behind %s: %v", name, told)
		}
	}
	b.happened()
}

// A nil player is closed, and knows nothing, however it is asked.
func TestNil(t *testing.T) {
	var x *Plain
	for range 2 {
		for _, b := range append(refused(), packet.Encode(api.Packet{Kind: api.PInput, From: 1, Press: []byte{1}}), packet.Encode(api.Packet{Kind: api.PQuit, From: 1})) {
			if err := x.Receive(b); err != api.ErrClosed {
				t.Errorf("P22.1: Receive of nil: %v", err)
			}
		}
		for v := range 256 {
			if err := x.Press(byte(v)); err != api.ErrClosed {
				t.Errorf("P22.1: Press of nil: %v", err)
			}
		}
		if len(x.Tick()) != 0 || len(x.Quit()) != 0 || len(x.Events()) != 0 || !x.Closed() || x.Core() != nil {
			t.Error("P22.1: nil tells")
		}
		for _, show := range []func() ([]byte, int){x.Confirmed, x.Display} {
			if b, n := show(); b != nil || n != 0 {
				t.Errorf("P22.1: nil shows %v, %d", b, n)
			}
		}
	}
}

// One that New did not make panics at nothing.
func TestZero(t *testing.T) {
	x := &Plain{}
	x.Press(1)
	x.Receive(packet.Encode(api.Packet{Kind: api.PInput, From: 1, Press: []byte{1}}))
	x.Receive([]byte{1})
	x.Tick()
	x.Confirmed()
	x.Display()
	x.Quit()
	x.Events()
	x.Closed()
	x.Core()
}

// Core is the player's own, however early it was asked.
func TestCore(t *testing.T) {
	b := hashed(t, usual(3, 1, 2, 8))
	k := b.x.Core()
	b.lead(6)
	b.feed(0, 5)
	b.feed(2, 9)
	if k != b.x.Core() || k.Head() != 6 || k.Queue().Front() != 5 || k.Marks() != 5 || k.Conf() != usual(3, 1, 2, 8) {
		t.Errorf("P22.1: Head %d, Front %d, %d marks", k.Head(), k.Queue().Front(), k.Marks())
	}
	b.quit()
	if !k.Closed() {
		t.Error("P22.1: the core is open")
	}
}

// spoil writes into a list, its spare room too.
func spoil(b []byte) {
	b = b[:cap(b)]
	for i := range b {
		b[i] ^= 0xa5
	}
}

// roomy is a copy with spare room behind it, in which something stands.
func roomy[T any](list []T, spare T) []T {
	whole := slices.Concat(list, slices.Repeat([]T{spare}, 50))
	return whole[:len(list)]
}

// P0.3: the program's rows and the table are neither changed nor kept.
func TestNewKeepsNothing(t *testing.T) {
	by := predict.By{Kind: api.GTable, Table: []byte{5, 6, 7}}
	good := program(t, hashing)
	p, table := good, roomy(by.Table, 9)
	p.Ops = roomy(good.Ops, api.Op{Code: 99})
	b := start(t, guessing(usual(2, 0, 1, 8), by), p, table)
	ops, bytesOf := p.Ops[:cap(p.Ops)], table[:cap(table)]
	if !slices.Equal(p.Ops, good.Ops) || !slices.Equal(table, by.Table) || ops[len(p.Ops)].Code != 99 || bytesOf[len(table)] != 9 {
		t.Error("P0.3: New wrote into what it was given")
	}
	b.r.prog, b.r.by = good, by
	for i := range ops {
		ops[i] = api.Op{Code: api.KTime, A: 3}
	}
	spoil(table)
	b.shown()
	b.lead(6)
	b.feed(1, 9)
	b.lead(12)
	for i := range ops {
		ops[i] = api.Op{Code: 99}
	}
	clear(bytesOf)
	b.lead(14)
	b.feed(1, 12)
	b.happened()
	b.marked(1)
}

// P0.3: the games' bytes are the caller's.
func TestGamesAreTheCallers(t *testing.T) {
	b := hashed(t, usual(2, 0, 1, 8))
	for round := range 6 {
		for _, show := range []func() ([]byte, int){b.x.Confirmed, b.x.Display} {
			kept, n := show()
			was := bytes.Clone(kept)
			again, m := show()
			spoil(again)
			if n != m || !bytes.Equal(kept, was) {
				t.Error("P0.3: two answers share memory")
			}
			spoil(kept)
			b.shown()
			other, _ := b.x.Display()
			was = bytes.Clone(other)
			more, _ := b.x.Confirmed()
			spoil(more)
			if !bytes.Equal(other, was) {
				t.Error("P0.3: Confirmed and Display share memory")
			}
		}
		b.lead(b.r.k.Head() + round)
		b.feed(1, 2*round)
	}
	b.happened()
	b.marked(1)
}

// P0.3: what is told is the caller's.
func TestMailsAreTheCallers(t *testing.T) {
	b := hashed(t, usual(4, 1, 2, 8))
	b.lead(7)
	for _, tell := range []func() []net.Mail{b.tick, b.tick, b.tick, b.quit} {
		mails := tell()
		for i, m := range mails {
			rest := clones(mails[i+1:])
			spoil(m.B)
			b.isTold("a mail behind one that was written into", mails[i+1:], rest)
		}
		all := mails[:cap(mails)]
		for i := range all {
			all[i] = net.Mail{From: 9, To: 9}
		}
		b.same()
	}
}

func clones(mails []net.Mail) []net.Mail {
	list := slices.Clone(mails)
	for i := range list {
		list[i].B = bytes.Clone(list[i].B)
	}
	return list
}

// P0.3: what was received is neither changed nor kept.
func TestReceivedIsNotKept(t *testing.T) {
	b := hashed(t, usual(3, 1, 0, 8))
	b.lead(8)
	for round := range 8 {
		p := api.Packet{Kind: api.PInput, From: round % 2 * 2, To: 1, Id: 77, First: round / 2 * 3, Press: some(round, 3), Ack: 1}
		x := roomy(packet.Encode(p), 123)
		was := bytes.Clone(x[:cap(x)])
		if got, want := b.x.Receive(x), b.r.receive(was[:len(x)]); got != want || !bytes.Equal(x[:cap(x)], was) {
			t.Errorf("P0.3: Receive: %v, and the bytes are others", got)
		}
		spoil(x)
		b.same()
		b.tick()
	}
	for _, x := range refused() {
		was := bytes.Clone(x)
		b.x.Receive(x)
		if !bytes.Equal(x, was) {
			t.Error("P0.3: Receive wrote into what it refused")
		}
		spoil(x)
	}
	b.same()
	b.happened()
	b.marked(0)
}

// P0.3: the events are the caller's.
func TestEventsAreTheCallers(t *testing.T) {
	other, _ := event.Of(api.Raw{Kind: api.EQuit, Player: 7})
	b := hashed(t, usual(4, 1, 3, 8))
	for i, p := range b.others() {
		b.word(p, i+1, 99)
		got, want := b.x.Events(), told(b.r.k.Events())
		if !slices.Equal(told(got), want) {
			t.Errorf("P0.3: %q, not %q", told(got), want)
		}
		got = got[:cap(got)]
		for k := range got {
			got[k] = other
		}
	}
	b.happened()
}

// wordOf is what a player may say: mostly of a mark that is there, mostly right.
func wordOf(n *noise, r *reading) (int, uint32) {
	frame := max(len(r.sums)+n.next(5)-3, 0)
	if n.next(4) == 0 {
		frame = n.next(len(r.sums) + 1)
	}
	frame = min(frame, 1000)
	if frame < 1 || frame > len(r.sums) || n.next(15) == 0 {
		return frame, uint32(n.next(1 << 32))
	}
	return frame, r.sums[frame-1]
}

// packetTo is a packet without a pattern, mostly one that is plausible to that player. The witness says no word.
func packetTo(n *noise, r *reading, witness int) api.Packet {
	c := r.k.Conf()
	p := api.Packet{Kind: api.PInput, From: n.next(c.N), To: c.Me, Id: c.Id}
	near := func(at int) int { return min(max(at+n.next(9)-5, 0), 1000) }
	p.First = near(r.k.Queue().Line(p.From).Len())
	p.Press = n.bytes(n.next(1+n.next(24)), 4)
	p.Ack = near(r.k.Head())
	if n.next(4) == 0 && p.From != witness {
		p.Frame, p.Sum = wordOf(n, r)
	}
	switch n.next(150) {
	case 0:
		p = api.Packet{Kind: api.PQuit, From: p.From, To: p.To, Id: p.Id}
	case 1, 2:
		p.Id ^= 1
	case 3, 4:
		p.To = n.next(8)
	}
	return p
}

// bytesTo are mostly a packet's, now and then spoilt ones, or one that came already.
func bytesTo(n *noise, r *reading, witness int, old [][]byte) []byte {
	b := packet.Encode(packetTo(n, r, witness))
	switch n.next(25) {
	case 0:
		return n.bytes(n.next(40), 256)
	case 1:
		if len(b) > 0 {
			b[n.next(len(b))] ^= byte(1 + n.next(255))
		}
	case 2:
		return b[:n.next(len(b)+1)]
	case 3, 4, 5:
		if len(old) > 0 {
			return old[n.next(len(old))]
		}
	}
	return b
}

// run is what came of calls of any kind.
type run struct{ frames, aparts, closed, guessed int }

// play calls of any kind.
func (b *both) play(n *noise, calls, ticks, witness int) run {
	b.t.Helper()
	var got run
	var old [][]byte
	for range calls {
		switch k := n.next(100); {
		case k < 40:
			b.press(byte(n.next(4)))
		case k < 93-ticks:
			x := bytesTo(n, &b.r, witness, old)
			old = append(old, x)
			b.bytes(x)
		case k < 93:
			b.tick()
		case k < 99:
			got.aparts += strings.Count(strings.Join(b.events(), " "), "apart")
		case n.next(6) == 0:
			b.quit()
		}
		if b.r.k.Head() > b.r.of {
			got.guessed++
		}
	}
	b.shown()
	b.events()
	got.frames = b.r.of
	if b.r.k.Closed() {
		got.closed = 1
	}
	return got
}

// Whole runs of calls of any kind: each number of players, each kind of guesses, each program, and each answer held against the second reading.
func TestRuns(t *testing.T) {
	var all run
	for seed := range 420 {
		n := noise(seed)
		by := bys()[n.next(len(bys()))]
		players := 2 + seed%7
		c := guessing(usual(players, n.next(players), n.next(9), 1+n.next(16)), by)
		c.Id = []int64{0, 5, 1 << 40, 1<<33 + 1}[n.next(4)]
		if n.next(2) == 0 {
			c.Delay = 0
		}
		b := start(t, c, program(t, texts[n.next(len(texts))]), by.Table)
		b.isQuiet = seed%5 == 4
		witness := -1
		if seed%2 == 0 {
			witness = b.others()[n.next(players-1)]
		}
		got := b.play(&n, 150, 2+seed%15, witness)
		if witness >= 0 && got.closed == 0 {
			b.marked(witness)
		}
		all = run{all.frames + got.frames, all.aparts + got.aparts, all.closed + got.closed, all.guessed + got.guessed}
	}
	if all.frames < 5000 || all.aparts < 50 || all.closed < 40 || all.closed > 380 || all.guessed < 10000 {
		t.Errorf("the runs are no ordinary ones: %+v", all)
	}
}

// A run tells the same, however often its games were asked in between.
func TestAskingChangesNothing(t *testing.T) {
	for seed := range 60 {
		var ends []string
		for _, isQuiet := range []bool{false, true} {
			n := noise(seed)
			b := hashed(t, usual(3, 1, seed%4, 1+seed%16))
			b.isQuiet = isQuiet
			got := b.play(&n, 100, 3, 0)
			confirmed, front := b.x.Confirmed()
			display, head := b.x.Display()
			ends = append(ends, fmt.Sprint(got, confirmed, front, display, head))
		}
		if ends[0] != ends[1] {
			t.Errorf("P0.5: a run is another one, when its games are asked: %s, %s", ends[0], ends[1])
		}
	}
}

// table is a game's players, with the mails that are on their way between them.
type table struct {
	t       *testing.T
	players []*both
	way     *net.Net
}

// sit lets that player of them play another game; -1: none.
func sit(t *testing.T, c api.Conf, by predict.By, text string, wrong int) *table {
	x := &table{t: t, way: net.New()}
	for me := range c.N {
		p := program(t, text)
		if me == wrong {
			p.Ops = append(p.Ops[:len(p.Ops):len(p.Ops)], api.Op{Code: api.KTime, A: 30})
		}
		c.Me = me
		x.players = append(x.players, start(t, guessing(c, by), p, by.Table))
	}
	return x
}

// tick sends what that player tells.
func (x *table) tick(p int) {
	x.t.Helper()
	for _, m := range x.players[p].tick() {
		x.way.Send(m)
	}
}

// come lets the i-th mail come; if it is to stay it comes once more.
func (x *table) come(i int, stays bool) {
	x.t.Helper()
	m, ok := x.way.Look(i)
	if !ok {
		return
	}
	if !stays {
		x.way.Drop(i)
	}
	if err := x.players[m.To].bytes(m.B); err != api.OK {
		x.t.Fatalf("P22.1: the mail from %d to %d: %v", m.From, m.To, err)
	}
}

// round: each presses and ticks, and but a few of the mails come, in any order, some of them twice, or are lost.
func (x *table) round(n *noise) {
	x.t.Helper()
	for p, b := range x.players {
		b.press(byte(n.next(3)))
		x.tick(p)
	}
	for x.way.Len() > len(x.players) {
		at := n.next(x.way.Len())
		switch n.next(6) {
		case 0, 1:
			x.way.Drop(at)
		case 2:
			x.come(at, true)
		default:
			x.come(at, false)
		}
	}
}

// agree: nothing happened, all went on, and of any two the games behind the lesser Front are the same.
func (x *table) agree(least int) {
	x.t.Helper()
	first := x.players[0].r.joint()
	for p, b := range x.players {
		b.happened()
		got := b.r.joint()
		front := min(len(first), len(got))
		if front < least || b.x.Closed() {
			x.t.Errorf("P22.1: the player %d of %d came to %d alone", p, len(x.players), front)
		}
		if fold.All(b.r.prog, first[:front]) != fold.All(b.r.prog, got[:front]) {
			x.t.Errorf("P22.1: the players 0 and %d of %d have other games", p, len(x.players))
		}
	}
}

// Players of two to eight, over a net that loses, doubles and turns: no guess and no order of mails sets their games apart.
func TestTables(t *testing.T) {
	for n := 2; n <= 8; n++ {
		for i, by := range bys() {
			c := usual(n, 0, []int{0, 3}[(n+i)%2], 3+(n+i)%8)
			x := sit(t, c, by, texts[(n+i)%len(texts)], -1)
			noise := noise(n*10 + i)
			for range 35 {
				x.round(&noise)
			}
			for x.way.Len() > 0 {
				x.come(0, false)
			}
			x.agree(15)
		}
	}
}

// A player that plays another game is told of as apart by all others, and tells of all others.
func TestApartAtTheTable(t *testing.T) {
	for n := 2; n <= 8; n++ {
		for wrong := range n {
			x := sit(t, usual(n, 0, 0, 4), predict.By{Kind: api.GLast}, "set 29 5\nin 1 2\nadd 0 0 1", wrong)
			noise := noise(n)
			for range 12 {
				x.round(&noise)
			}
			for p, b := range x.players {
				want := []int{wrong}
				if p == wrong {
					want = b.others()
				}
				got := apartFrom(b.x.Events())
				if !slices.Equal(got, want) {
					t.Errorf("P22.1: the player %d of %d, with %d another one: apart from %v", p, n, wrong, got)
				}
			}
		}
	}
}

// apartFrom are the players of those events that are Apart, rising.
func apartFrom(events []event.Event) []int {
	var players []int
	for _, e := range events {
		if event.Raw(e).Kind == api.EApart {
			players = append(players, e.Player())
		}
	}
	slices.Sort(players)
	return players
}
