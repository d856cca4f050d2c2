package core

import (
	"bytes"
	"encoding/binary"
	"fmt"
	"hash/crc32"
	"math"
	"slices"
	"testing"

	"quintain/api"
	"quintain/event"
	"quintain/net"
	"quintain/packet"
)

// noise gives numbers without a pattern that is short, always the same of one seed.
type noise uint32

func (n *noise) next(below int) int {
	*n = 1664525**n + 1013904223
	return int(uint64(*n^*n>>13) * uint64(below) >> 32)
}

func (n *noise) bytes(count int) []byte {
	b := make([]byte, count)
	for i := range b {
		b[i] = byte(n.next(256))
	}
	return b
}

// some are the presses of a player's first frames, none of them 0, that go on differently from each other player's.
func some(player, count int) []byte {
	b := make([]byte, count)
	for i := range b {
		b[i] = byte(1 + (player*31+i*(player+1))%255)
	}
	return b
}

// heard is a packet that came, and what was so when it came.
type heard struct {
	packet      api.Packet
	clock, head int
}

// reading is a second reading of the chapter: it keeps all that it was told, and works the rest out of that whenever it is asked.
type reading struct {
	conf   api.Conf
	mine   []byte
	heard  [api.MaxPeers][]heard // from each player
	marks  []uint32
	clock  int
	apart  [api.MaxPeers]bool
	events []string
	closed bool
}

func (r *reading) line(p int) []byte {
	line := make([]byte, r.conf.Delay)
	if p == r.conf.Me {
		return append(line, r.mine...)
	}
	for _, h := range r.heard[p] {
		for i, b := range h.packet.Press {
			if h.packet.First+i == len(line) && len(line) < 1000 {
				line = append(line, b)
			}
		}
	}
	return line
}

func (r *reading) head() int { return r.conf.Delay + len(r.mine) }

func (r *reading) front() int {
	front := 1000
	for p := range r.conf.N {
		front = min(front, len(r.line(p)))
	}
	return front
}

func (r *reading) has(p int) int {
	has := r.conf.Delay
	for _, h := range r.heard[p] {
		if h.packet.Ack > has && h.packet.Ack <= h.head {
			has = h.packet.Ack
		}
	}
	return has
}

// word is the last one of those with the greatest Frame.
func (r *reading) word(p int) (int, uint32) {
	frame := 0
	for _, h := range r.heard[p] {
		frame = max(frame, h.packet.Frame)
	}
	for _, h := range slices.Backward(r.heard[p]) {
		if h.packet.Frame == frame {
			return frame, h.packet.Sum
		}
	}
	return 0, 0
}

func (r *reading) hold() {
	for p := range r.conf.N {
		f, s := r.word(p)
		if f == 0 || f > len(r.marks) || r.apart[p] || r.marks[f-1] == s {
			continue
		}
		r.apart[p] = true
		r.events = append(r.events, fmt.Sprintf("apart %d %d", p, f))
	}
}

func (r *reading) press(b byte) api.Errno {
	switch {
	case r.closed:
		return api.ErrClosed
	case r.head() == 1000:
		return api.ErrFull
	case r.head() >= r.front()+r.conf.Window:
		return api.ErrStall
	}
	r.mine = append(r.mine, b)
	return api.OK
}

func (r *reading) receive(b []byte) api.Errno {
	if r.closed {
		return api.ErrClosed
	}
	p, err := packet.Decode(b)
	if err != api.OK || p.To != r.conf.Me || p.From >= r.conf.N || p.Id != r.conf.Id {
		return api.ErrForm
	}
	r.heard[p.From] = append(r.heard[p.From], heard{p, r.clock, r.head()})
	if p.Kind == api.PQuit {
		r.events = append(r.events, fmt.Sprintf("quit %d", p.From))
		r.closed = true
	}
	r.hold()
	return api.OK
}

func (r *reading) tick() []api.Packet {
	if r.closed {
		return nil
	}
	r.clock++
	for p := range r.conf.N {
		last := 0
		for _, h := range r.heard[p] {
			last = h.clock
		}
		if p != r.conf.Me && r.clock-last >= 40 {
			r.events = append(r.events, fmt.Sprintf("late %d", p))
			r.closed = true
			return nil
		}
	}
	var told []api.Packet
	for p := range r.conf.N {
		if p == r.conf.Me {
			continue
		}
		x := api.Packet{Kind: api.PInput, From: r.conf.Me, To: p, Id: r.conf.Id, First: r.has(p), Ack: len(r.line(p)), Frame: len(r.marks)}
		left := r.line(r.conf.Me)[x.First:]
		x.Press = left[:min(32, len(left))]
		if x.Frame > 0 {
			x.Sum = r.marks[x.Frame-1]
		}
		told = append(told, x)
	}
	return told
}

func (r *reading) quit() []api.Packet {
	if r.closed {
		return nil
	}
	r.closed = true
	var told []api.Packet
	for p := range r.conf.N {
		if p != r.conf.Me {
			told = append(told, api.Packet{Kind: api.PQuit, From: r.conf.Me, To: p, Id: r.conf.Id})
		}
	}
	return told
}

func (r *reading) mark(sum uint32) {
	if len(r.marks) < 1000 {
		r.marks = append(r.marks, sum)
	}
	r.hold()
}

// both is a Core beside its reading: each call is made of both, and the answers are held against each other.
type both struct {
	t *testing.T
	c *Core
	r reading
}

// usual is a conf that may be.
func usual(n, me, delay, window int) api.Conf {
	return api.Conf{N: n, Me: me, Id: 77, Delay: delay, Window: window, Guess: api.GLast, Room: 3}
}

func start(t *testing.T, c api.Conf) *both {
	t.Helper()
	x, err := New(c)
	if x == nil || err != api.OK {
		t.Fatalf("P21.1: New(%v): %v", c, err)
	}
	b := &both{t: t, c: x, r: reading{conf: c}}
	b.same()
	return b
}

// same: all that may be asked without changing anything.
func (b *both) same() {
	b.t.Helper()
	if got := b.c.Conf(); got != b.r.conf {
		b.t.Fatalf("P21.1: Conf: %v, not %v", got, b.r.conf)
	}
	if got := b.c.Head(); got != b.r.head() {
		b.t.Fatalf("P21.1: Head: %d, not %d", got, b.r.head())
	}
	if got := b.c.Marks(); got != len(b.r.marks) {
		b.t.Fatalf("P21.5: Marks: %d, not %d", got, len(b.r.marks))
	}
	if got := b.c.Closed(); got != b.r.closed {
		b.t.Fatalf("P21.6: Closed: %t, not %t", got, b.r.closed)
	}
	q := b.c.Queue()
	if q.N() != b.r.conf.N || q.Front() != b.r.front() {
		b.t.Fatalf("P21.1: a queue of %d players, Front %d, not %d and %d", q.N(), q.Front(), b.r.conf.N, b.r.front())
	}
	for p := range b.r.conf.N {
		if got, want := q.Line(p).All(), b.r.line(p); !bytes.Equal(got, want) {
			b.t.Fatalf("P21.3: the line of %d: %v, not %v", p, got, want)
		}
	}
}

func (b *both) press(x byte) api.Errno {
	b.t.Helper()
	got, want := b.c.Press(x), b.r.press(x)
	if got != want {
		b.t.Fatalf("P21.2: Press(%d): %v, not %v", x, got, want)
	}
	b.same()
	return got
}

func (b *both) bytes(x []byte) api.Errno {
	b.t.Helper()
	got, want := b.c.Receive(bytes.Clone(x)), b.r.receive(x)
	if got != want {
		b.t.Fatalf("P21.3: Receive(%v): %v, not %v", x, got, want)
	}
	b.same()
	return got
}

// receive hands in a packet to this player in this match.
func (b *both) receive(p api.Packet) api.Errno {
	b.t.Helper()
	p.To, p.Id = b.r.conf.Me, b.r.conf.Id
	return b.bytes(packet.Encode(p))
}

// isTold: the mails are just these packets.
func (b *both) isTold(what string, mails []net.Mail, want []api.Packet) {
	b.t.Helper()
	if len(mails) != len(want) {
		b.t.Fatalf("%s: %d mails, not %d", what, len(mails), len(want))
	}
	for i, m := range mails {
		if m.From != want[i].From || m.To != want[i].To || !bytes.Equal(m.B, packet.Encode(want[i])) {
			p, err := packet.Decode(m.B)
			b.t.Fatalf("%s, the mail %d from %d to %d: %v, %v, not %v", what, i, m.From, m.To, p, err, want[i])
		}
	}
}

// tick tells what was told.
func (b *both) tick() []api.Packet {
	b.t.Helper()
	want := b.r.tick()
	b.isTold("P21.4: Tick", b.c.Tick(), want)
	b.same()
	return want
}

func (b *both) quit() {
	b.t.Helper()
	b.isTold("P21.6: Quit", b.c.Quit(), b.r.quit())
	b.same()
}

func (b *both) mark(sum uint32) {
	b.t.Helper()
	b.c.Mark(sum)
	b.r.mark(sum)
	b.same()
}

func texts(events []event.Event) []string {
	var told []string
	for _, e := range events {
		told = append(told, event.Text(e))
	}
	return told
}

// events: they are as the reading's, and as what is written out, if that is any.
func (b *both) events(want ...string) {
	b.t.Helper()
	got := texts(b.c.Events())
	if !slices.Equal(got, b.r.events) {
		b.t.Fatalf("P21.6: Events: %q, not %q", got, b.r.events)
	}
	if want != nil && !slices.Equal(got, want) {
		b.t.Fatalf("P21.6: Events: %q, not %q", got, want)
	}
	b.r.events = nil
}

// none: nothing happened.
func (b *both) none() {
	b.t.Helper()
	b.events()
	if got := b.c.Events(); len(got) != 0 {
		b.t.Fatalf("P21.6: Events behind Events: %q", texts(got))
	}
}

// silent: nothing happened since Events was asked last.
func (b *both) silent() {
	b.t.Helper()
	if len(b.r.events) != 0 {
		b.t.Fatalf("the reading has %q", b.r.events)
	}
	b.none()
}

// others are all players but Me.
func (b *both) others() []int {
	var others []int
	for p := range b.r.conf.N {
		if p != b.r.conf.Me {
			others = append(others, p)
		}
	}
	return others
}

// feed lets that player's line grow to that many frames.
func (b *both) feed(p, upTo int) {
	b.t.Helper()
	all := some(p, 1000)
	for n := len(b.r.line(p)); n < upTo; n = len(b.r.line(p)) {
		if err := b.receive(api.Packet{Kind: api.PInput, From: p, First: n, Press: all[n:min(n+32, upTo)]}); err != api.OK {
			b.t.Fatalf("P21.3: Receive: %v", err)
		}
	}
}

// lead lets Me's line grow to that many frames, the others' are as far as need be, up to most.
func (b *both) lead(head, most int) {
	b.t.Helper()
	all := some(b.r.conf.Me, 1000)
	for n := b.r.head(); n < head; n = b.r.head() {
		for _, p := range b.others() {
			b.feed(p, min(n+32, most))
		}
		for b.r.head() < min(n+32, head) {
			if err := b.press(all[b.r.head()]); err != api.OK {
				b.t.Fatalf("P21.2: Press at %d: %v", b.r.head(), err)
			}
		}
	}
}

// hear lets all others be heard, but these.
func (b *both) hear(but ...int) {
	b.t.Helper()
	for _, p := range b.others() {
		if !slices.Contains(but, p) {
			b.receive(api.Packet{Kind: api.PInput, From: p})
		}
	}
}

// field is a number of a Conf, with its ends.
type field struct {
	name      string
	low, high int
	set       func(c *api.Conf, n int)
}

var fields = []field{
	{"N", 2, 8, func(c *api.Conf, n int) { c.N = n }},
	{"Id", 0, 1 << 40, func(c *api.Conf, n int) { c.Id = int64(n) }},
	{"Delay", 0, 8, func(c *api.Conf, n int) { c.Delay = n }},
	{"Window", 1, 16, func(c *api.Conf, n int) { c.Window = n }},
	{"Branches", 0, 8, func(c *api.Conf, n int) { c.Branches = n }},
	{"Workers", 0, 4, func(c *api.Conf, n int) { c.Workers = n }},
	{"Room", 3, 50, func(c *api.Conf, n int) { c.Room = n }},
}

// confs are three that may be, Me of which is 0 so that N may be any.
var confs = []api.Conf{
	{N: 2, Window: 1, Guess: api.GLast, Room: 3},
	{N: 8, Id: 1 << 40, Delay: 8, Window: 16, Guess: api.GMarkov, Order: 3, Branches: 8, Workers: 4, Room: 50},
	{N: 5, Id: 1 << 33, Delay: 3, Window: 7, Guess: api.GTable, Branches: 2, Workers: 2, Room: 20},
}

// far are numbers beyond all ends, those too that come between them when they lose their upper bits or wrap.
var far = []int{
	-1, -2, -8, -255, -256, -254, -1000, -1 << 16, math.MinInt32, -1 << 32, -1<<32 + 3, -1 << 40, math.MinInt, math.MinInt + 1, math.MinInt + 3,
	1<<40 + 1, 1<<40 + 3, 1 << 41, 1<<48 + 3, 1<<62 + 3, math.MaxInt - 1, math.MaxInt,
}

// below2to40 are numbers beyond all ends but Id's.
var below2to40 = []int{51, 52, 64, 67, 127, 128, 255, 256, 257, 258, 259, 1000, 1 << 16, 1<<16 + 3, math.MaxInt32, 1 << 31, 1 << 32, 1<<32 + 3}

// mayBe: May and New say so of this Conf.
func mayBe(t *testing.T, c api.Conf, want bool) {
	t.Helper()
	if got := May(c); got != want {
		t.Errorf("P21.1: May(%v): %t", c, got)
	}
	if want {
		b := start(t, c)
		b.silent()
		return
	}
	if x, err := New(c); x != nil || err != api.ErrForm {
		t.Errorf("P21.1: New(%v): %v, %v", c, x, err)
	}
}

func TestMayEnds(t *testing.T) {
	for _, c := range confs {
		mayBe(t, c, true)
		for _, f := range fields {
			ns := append([]int{f.low - 1, f.low, f.low + 1, (f.low + f.high) / 2, f.high - 1, f.high, f.high + 1}, append(far, below2to40...)...)
			for _, n := range ns {
				x := c
				f.set(&x, n)
				mayBe(t, x, f.low <= n && n <= f.high)
			}
		}
	}
	for _, f := range fields {
		if f.high > 1000 {
			continue
		}
		for n := f.low - 3; n <= f.high+3; n++ {
			x := confs[2]
			f.set(&x, n)
			mayBe(t, x, f.low <= n && n <= f.high)
		}
	}
}

// What Me may be hangs on N alone.
func TestMayMe(t *testing.T) {
	for _, c := range confs {
		for n := -1; n <= 10; n++ {
			for me := -2; me <= 10; me++ {
				c.N, c.Me = n, me
				mayBe(t, c, n >= 2 && n <= 8 && me >= 0 && me < n)
			}
			for _, me := range append(far, below2to40...) {
				c.N, c.Me = n, me
				mayBe(t, c, false)
			}
		}
	}
	for _, n := range append(far, below2to40...) {
		for _, me := range []int{0, 1, n - 1, n, math.MaxInt, math.MinInt} {
			c := confs[1]
			c.N, c.Me = n, me
			mayBe(t, c, false)
		}
	}
}

// What Order may be hangs on Guess.
func TestMayGuess(t *testing.T) {
	for _, c := range confs {
		for guess := -2; guess <= 6; guess++ {
			for order := -2; order <= 6; order++ {
				c.Guess, c.Order = guess, order
				mayBe(t, c, guess == 2 && order >= 0 && order <= 3 || guess >= 1 && guess <= 3 && order == 0)
			}
		}
		for _, n := range append(far, below2to40...) {
			for guess := 1; guess <= 3; guess++ {
				c.Guess, c.Order = guess, n
				mayBe(t, c, false)
			}
			c.Guess, c.Order = n, 0
			mayBe(t, c, false)
		}
	}
}

// Two things that may not be are none that may be.
func TestMayTwo(t *testing.T) {
	for i, f := range fields {
		for _, g := range fields[i+1:] {
			for _, c := range confs {
				f.set(&c, f.high+1)
				g.set(&c, g.low-1)
				mayBe(t, c, false)
				f.set(&c, f.low-1)
				g.set(&c, g.high+1)
				mayBe(t, c, false)
			}
		}
	}
	mayBe(t, api.Conf{}, false)
}

// A new player: of each number of players, each of them, each delay.
func TestNew(t *testing.T) {
	for n := 2; n <= 8; n++ {
		for me := range n {
			for delay := range 9 {
				b := start(t, usual(n, me, delay, 5))
				if b.c.Head() != delay || b.c.Queue().Front() != delay || b.c.Marks() != 0 || b.c.Closed() {
					t.Errorf("P21.1: a new player of Delay %d: Head %d, Front %d", delay, b.c.Head(), b.c.Queue().Front())
				}
				b.silent()
				told := b.tick()
				if len(told) != n-1 || told[0].First != delay || told[0].Ack != delay || len(told[0].Press) != 0 {
					t.Errorf("P21.4: a new player's first tick: %v", told)
				}
			}
		}
	}
}

// As far ahead as each window lets, and one press more behind each frame that all others are known of.
func TestPressWindow(t *testing.T) {
	for n := 2; n <= 8; n++ {
		for window := 1; window <= 16; window++ {
			b := start(t, usual(n, (window+n)%n, window%9, window))
			for i := range window {
				if err := b.press(byte(i + 1)); err != api.OK {
					t.Fatalf("P21.2: the press %d of a window of %d: %v", i, window, err)
				}
			}
			for frame := b.r.front(); frame < b.r.conf.Delay+3; frame++ {
				for _, p := range b.others() {
					for range 2 {
						if err := b.press(200); err != api.ErrStall {
							t.Fatalf("P21.2: %d ahead with a window of %d: %v", b.r.head()-b.r.front(), window, err)
						}
					}
					b.feed(p, frame+1)
				}
				if err := b.press(byte(frame)); err != api.OK {
					t.Fatalf("P21.2: one below the window of %d: %v", window, err)
				}
			}
			if err := b.press(1); err != api.ErrStall {
				t.Fatalf("P21.2: at the window of %d again: %v", window, err)
			}
			b.silent()
		}
	}
}

// The Front is Me's own Head, where all others are ahead of it.
func TestPressBehindOthers(t *testing.T) {
	b := start(t, usual(3, 2, 0, 1))
	b.feed(0, 100)
	b.feed(1, 40)
	for i := range 41 {
		if err := b.press(byte(i)); err != api.OK {
			t.Fatalf("P21.2: the press %d: %v", i, err)
		}
	}
	if err := b.press(1); err != api.ErrStall {
		t.Errorf("P21.2: one ahead with a window of 1: %v", err)
	}
}

// To a thousand frames: full counts ahead of stalled, closed ahead of both.
func TestPressFull(t *testing.T) {
	for _, x := range []struct {
		window, most int // of the others' frames
		at999, full  api.Errno
	}{{16, 1000, api.OK, api.ErrFull}, {16, 999, api.OK, api.ErrFull}, {16, 985, api.OK, api.ErrFull}, {16, 984, api.OK, api.ErrFull}, {1, 999, api.OK, api.ErrFull}, {1, 1000, api.OK, api.ErrFull}, {16, 983, api.ErrStall, api.ErrStall}, {1, 998, api.ErrStall, api.ErrStall}} {
		b := start(t, usual(2, 1, 8, x.window))
		b.lead(999, x.most)
		if err := b.press(7); err != x.at999 {
			t.Errorf("P21.2: Press at 999, the other at %d, a window of %d: %v", x.most, x.window, err)
		}
		for range 2 {
			if err := b.press(8); err != x.full {
				t.Errorf("P21.2: Press at %d, the other at %d, a window of %d: %v", b.c.Head(), x.most, x.window, err)
			}
		}
		b.tick()
		b.quit()
		if err := b.press(8); err != api.ErrClosed {
			t.Errorf("P21.2: Press of a closed one: %v", err)
		}
	}
}

// Each value is a press.
func TestPressValues(t *testing.T) {
	b := start(t, usual(2, 0, 2, 3))
	b.feed(1, 300)
	for x := range 256 {
		b.press(byte(x))
	}
	for x := range 256 {
		if got, ok := b.c.Queue().Line(0).At(2 + x); !ok || got != byte(x) {
			t.Errorf("P21.2: the frame %d: %d, %t", 2+x, got, ok)
		}
	}
}

// What is told is written out, from byte to byte.
func TestWrittenOut(t *testing.T) {
	c, _ := New(usual(3, 1, 2, 4))
	for _, x := range []byte{1, 1, 1, 9} {
		c.Press(x)
	}
	sealed := func(b ...byte) []byte { return binary.BigEndian.AppendUint32(b, crc32.ChecksumIEEE(b)) }
	// From the player 0: its frames 2 and 3 are 5 and 6, it has 4 frames of the player 1's, and nothing of the game.
	if err := c.Receive(sealed(1, 0, 1, 154, 1, 4, 8, 0, 0, 0, 0, 0, 4, 2, 5, 2, 3)); err != api.OK {
		t.Fatalf("P21.3: %v", err)
	}
	c.Mark(500)
	c.Mark(0x010203f5)
	want := []net.Mail{
		{From: 1, To: 0, B: sealed(1, 1, 0, 154, 1, 8, 8, 4, 1, 2, 3, 0xf5, 4, 2, 1, 2, 8)},
		{From: 1, To: 2, B: sealed(1, 1, 2, 154, 1, 4, 4, 4, 1, 2, 3, 0xf5, 8, 6, 1, 2, 8)},
	}
	if got := c.Tick(); fmt.Sprint(got) != fmt.Sprint(want) {
		t.Errorf("P21.4: %v, not %v", got, want)
	}
	if got := fmt.Sprint(c.Queue().Line(0).All(), c.Queue().Line(1).All(), c.Queue().Line(2).All(), c.Head(), c.Marks(), c.Closed()); got != "[0 0 5 6] [0 0 1 1 1 9] [0 0] 6 2 false" {
		t.Errorf("P21.3: %s", got)
	}
	want = []net.Mail{{From: 1, To: 0, B: sealed(2, 1, 0, 154, 1)}, {From: 1, To: 2, B: sealed(2, 1, 2, 154, 1)}}
	if got := c.Quit(); fmt.Sprint(got) != fmt.Sprint(want) {
		t.Errorf("P21.6: %v, not %v", got, want)
	}
	if err := c.Receive(sealed(2, 0, 1, 154, 1)); err != api.ErrClosed {
		t.Errorf("P21.3: %v", err)
	}
	c, _ = New(usual(3, 1, 2, 4))
	if err := c.Receive(sealed(2, 0, 1, 154, 1)); err != api.OK || !c.Closed() || fmt.Sprint(texts(c.Events())) != "[quit 0]" {
		t.Errorf("P21.3: a PQuit: %v", err)
	}
}

// unlike are bytes that are for no player 1 of three in the match 77.
func unlike() [][]byte {
	good := api.Packet{Kind: api.PInput, From: 0, To: 1, Id: 77, First: 2, Press: []byte("abca"), Ack: 3, Frame: 1, Sum: 5}
	quit := api.Packet{Kind: api.PQuit, From: 2, To: 1, Id: 77}
	all := [][]byte{nil, {}, {0}, make([]byte, 16), bytes.Repeat([]byte{255}, 40), make([]byte, 2000)}
	for _, p := range []api.Packet{good, quit} {
		b := packet.Encode(p)
		for at := range b {
			for bit := range 8 {
				x := bytes.Clone(b)
				x[at] ^= 1 << bit
				all = append(all, x)
			}
			all = append(all, b[:at])
		}
		all = append(all, append(bytes.Clone(b), 0), append([]byte{0}, b...), append(bytes.Clone(b), b...))
		for from := range 8 {
			for to := range 8 {
				x := p
				x.From, x.To = from, to
				if from != to && (to != 1 || from >= 3) {
					all = append(all, packet.Encode(x))
				}
			}
		}
		for _, id := range []int64{0, 1, 76, 78, 77 + 1<<8, 77 + 1<<16, 77 + 1<<32, 1 << 40} {
			x := p
			x.Id = id
			all = append(all, packet.Encode(x))
		}
	}
	return all
}

// What is refused changes nothing, and nobody was heard.
func TestReceiveRefused(t *testing.T) {
	b := start(t, usual(3, 1, 2, 4))
	b.press(3)
	b.mark(9)
	// A mark that is another one than the refused packets' word.
	b.tick()
	before := b.tick()
	for _, x := range unlike() {
		if err := b.bytes(x); err != api.ErrForm {
			t.Fatalf("P21.3: Receive(%v): %v", x, err)
		}
	}
	b.silent()
	if after := b.tick(); fmt.Sprint(after) != fmt.Sprint(before) {
		t.Errorf("P21.3: a Tick behind what was refused: %v, not %v", after, before)
	}
	for b.r.clock < 39 {
		b.tick()
		for _, x := range unlike()[:200] {
			b.bytes(x)
		}
	}
	b.silent()
	b.tick()
	b.events("late 0")
	if !b.c.Closed() {
		t.Error("P21.4: not closed")
	}
}

// Id 0 and 2^40, and those that a spoiled upper part makes of them.
func TestReceiveId(t *testing.T) {
	ids := []int64{0, 1, 77, 1 << 8, 1 << 31, 1 << 32, 1<<32 + 77, 1<<40 - 1, 1 << 40}
	for _, id := range ids {
		c := usual(2, 0, 0, 4)
		c.Id = id
		b := start(t, c)
		for _, other := range ids {
			want := api.OK
			if other != id {
				want = api.ErrForm
			}
			if err := b.bytes(packet.Encode(api.Packet{Kind: api.PInput, From: 1, To: 0, Id: other})); err != want {
				t.Errorf("P21.3: a packet of %d to a player of %d: %v", other, id, err)
			}
		}
	}
}

// Who may tell whom: of each number of players, each of them.
func TestReceiveWho(t *testing.T) {
	for n := 2; n <= 8; n++ {
		for me := range n {
			for from := range 8 {
				for to := range 8 {
					for kind := api.PInput; kind <= api.PQuit; kind++ {
						if from == to {
							continue
						}
						b := start(t, usual(n, me, 1, 4))
						isMine := to == me && from < n
						want := api.ErrForm
						if isMine {
							want = api.OK
						}
						p := api.Packet{Kind: kind, From: from, To: to, Id: 77}
						if err := b.bytes(packet.Encode(p)); err != want {
							t.Errorf("P21.3: from %d to %d, to the player %d of %d: %v", from, to, me, n, err)
						}
						if isMine && kind == api.PQuit {
							b.events(fmt.Sprintf("quit %d", from))
						}
						if b.c.Closed() != (isMine && kind == api.PQuit) {
							t.Errorf("P21.3: Closed: %t", b.c.Closed())
						}
						b.silent()
					}
				}
			}
		}
	}
}

// Presses that lie in each way to what is known; what Put refuses is passed over, the rest of the packet is not.
func TestReceivePresses(t *testing.T) {
	for delay := range 4 {
		for known := range 6 {
			for first := range 10 {
				for count := range 6 {
					b := start(t, usual(3, 0, delay, 4))
					b.press(1)
					b.feed(2, delay+known)
					told := api.Packet{Kind: api.PInput, From: 2, First: first, Press: bytes.Repeat([]byte{250}, count), Ack: delay + 1, Frame: 1, Sum: 6}
					if err := b.receive(told); err != api.OK {
						t.Fatalf("P21.3: Receive: %v", err)
					}
					b.mark(5)
					b.events("apart 2 1")
					if got := b.tick()[1]; got.First != delay+1 || len(got.Press) != 0 {
						t.Errorf("P21.3: the Ack of a packet with First %d, behind %d: %v", first, delay+known, got)
					}
				}
			}
		}
	}
}

// Up to the frame 1,000: those ahead of it are added, the rest is passed over.
func TestReceiveFull(t *testing.T) {
	for _, known := range []int{968, 969, 990, 999, 1000} {
		for _, first := range []int{0, 960, known, known + 1, 1000} {
			b := start(t, usual(2, 1, 3, 4))
			b.feed(0, known)
			if err := b.receive(api.Packet{Kind: api.PInput, From: 0, First: min(first, 1000), Press: bytes.Repeat([]byte{251}, 32), Frame: 1000, Sum: 3}); err != api.OK {
				t.Errorf("P21.3: Receive: %v", err)
			}
			if got := b.tick()[0]; got.Ack != b.c.Queue().Line(0).Len() {
				t.Errorf("P21.4: Ack %d", got.Ack)
			}
		}
	}
}

// The presses of one player go to its line alone, of whichever it is.
func TestReceiveLines(t *testing.T) {
	for n := 2; n <= 8; n++ {
		for me := range n {
			b := start(t, usual(n, me, 1, 4))
			for i, p := range slices.Backward(b.others()) {
				b.receive(api.Packet{Kind: api.PInput, From: p, First: 1, Press: some(p, i+1)})
			}
			b.tick()
			b.silent()
		}
	}
}

// What another one has: each Ack below, at and above what it had, and above Head.
func TestReceiveAck(t *testing.T) {
	for delay := range 9 {
		for had := delay; had <= delay+5; had++ {
			for _, ack := range []int{0, 1, delay - 1, delay, delay + 1, had - 1, had, had + 1, delay + 4, delay + 5, delay + 6, delay + 7, 100, 999, 1000} {
				if ack < 0 {
					continue
				}
				b := start(t, usual(3, 1, delay, 5))
				for i := range 5 {
					b.press(byte(i + 1))
				}
				b.receive(api.Packet{Kind: api.PInput, From: 2, Ack: had})
				b.receive(api.Packet{Kind: api.PInput, From: 2, Ack: ack})
				want := had
				if ack > had && ack <= delay+5 {
					want = ack
				}
				told := b.tick()
				if told[1].First != want || len(told[1].Press) != delay+5-want || told[0].First != delay || len(told[0].Press) != 5 {
					t.Errorf("P21.3: had %d, Ack %d, Head %d: %v", had, ack, delay+5, told)
				}
			}
		}
	}
}

// An Ack above Head is not kept for later, when Head is there.
func TestReceiveAckAhead(t *testing.T) {
	b := start(t, usual(2, 0, 0, 8))
	b.press(1)
	b.receive(api.Packet{Kind: api.PInput, From: 1, Ack: 1})
	b.receive(api.Packet{Kind: api.PInput, From: 1, Ack: 3})
	b.press(2)
	b.press(3)
	if got := b.tick()[0]; got.First != 1 || string(got.Press) != "\x02\x03" {
		t.Errorf("P21.3: %v", got)
	}
	b.receive(api.Packet{Kind: api.PInput, From: 1, Ack: 3})
	if got := b.tick()[0]; got.First != 3 || len(got.Press) != 0 {
		t.Errorf("P21.3: %v", got)
	}
}

// Ticks with 0 to 70 presses that another one has not, up to 32 of which are told.
func TestTickPresses(t *testing.T) {
	for delay := range 9 {
		b := start(t, usual(3, 1, delay, 16))
		for n := range 71 {
			told := b.tick()
			for _, p := range told {
				if p.First != delay || len(p.Press) != min(n, 32) || !bytes.Equal(p.Press, some(1, 71)[:min(n, 32)]) {
					t.Fatalf("P21.4: with %d presses behind %d: %v", n, delay, p)
				}
			}
			b.feed(0, delay+n)
			b.feed(2, delay+n)
			if err := b.press(some(1, 71)[n]); err != api.OK {
				t.Fatalf("P21.2: %v", err)
			}
		}
		for _, has := range []int{1, 5, 31, 32, 33, 38, 39, 40, 41, 63, 70, 71} {
			b.receive(api.Packet{Kind: api.PInput, From: 2, Ack: delay + has})
			told := b.tick()[1]
			if told.First != delay+has || !bytes.Equal(told.Press, some(1, 71)[has:min(has+32, 71)]) {
				t.Fatalf("P21.4: with %d of 71 presses: %v", has, told)
			}
		}
		b.silent()
	}
}

// What is told twice is told again, as long as the other one does not have it.
func TestTickAgain(t *testing.T) {
	b := start(t, usual(2, 1, 1, 4))
	b.press(5)
	first := b.tick()
	for range 10 {
		if got := b.tick(); fmt.Sprint(got) != fmt.Sprint(first) {
			t.Errorf("P21.4: %v, not %v", got, first)
		}
	}
}

// Ack is of each player's line its own, Frame and Sum are of the marks.
func TestTickTells(t *testing.T) {
	b := start(t, usual(8, 3, 2, 4))
	for _, p := range b.others() {
		b.feed(p, 2+p)
	}
	for i, sum := range []uint32{0, 7, 1 << 31, math.MaxUint32, 0, 12} {
		for k, p := range b.tick() {
			if to := b.others()[k]; p.To != to || p.Ack != max(2, 2+to) || p.Frame != i {
				t.Errorf("P21.4: %v", p)
			}
		}
		b.mark(sum)
		for _, p := range b.tick() {
			if p.Frame != i+1 || p.Sum != sum {
				t.Errorf("P21.4: behind the mark %d of %d: %v", i+1, sum, p)
			}
		}
	}
}

// A player that was heard 39 ticks ago, and 40; each one of each number of players.
func TestLate(t *testing.T) {
	for n := 2; n <= 8; n++ {
		for me := range n {
			for _, at := range []int{0, 1, 2, 17, 38, 39} {
				b := start(t, usual(n, me, 0, 4))
				one := b.others()[(at+me)%(n-1)]
				for range at {
					b.tick()
					b.hear(one)
				}
				b.hear()
				for i := range 39 {
					if got := b.tick(); len(got) != n-1 {
						t.Fatalf("P21.4: %d ticks behind what was heard: %v", i+1, got)
					}
					b.hear(one)
				}
				b.silent()
				if got := b.tick(); got != nil || !b.c.Closed() {
					t.Fatalf("P21.4: 40 ticks behind what was heard: %v", got)
				}
				b.events(fmt.Sprintf("late %d", one))
				b.tick()
				b.silent()
			}
		}
	}
}

// One that was never heard was heard at 0.
func TestLateNeverHeard(t *testing.T) {
	for n := 2; n <= 8; n++ {
		for me := range n {
			for _, p := range start(t, usual(n, me, 0, 4)).others() {
				b := start(t, usual(n, me, 3, 4))
				for range 39 {
					b.tick()
					b.hear(p)
				}
				b.silent()
				b.tick()
				b.events(fmt.Sprintf("late %d", p))
			}
		}
	}
}

// Several late ones in one tick: the least is told, and no one behind it.
func TestLateTwo(t *testing.T) {
	for set := 1; set < 1<<5; set++ {
		b := start(t, usual(6, 2, 0, 4))
		var late []int
		for i, p := range b.others() {
			if set>>i&1 == 1 {
				late = append(late, p)
			}
		}
		for range 39 {
			b.tick()
			b.hear(late...)
		}
		b.silent()
		if got := b.c.Tick(); len(got) != 0 {
			t.Errorf("P21.4: %v", got)
		}
		if got := fmt.Sprint(texts(b.c.Events())); got != fmt.Sprintf("[late %d]", late[0]) || !b.c.Closed() {
			t.Errorf("P21.4: of %v: %s", late, got)
		}
	}
}

// One that is later than another one, but behind it, is not asked.
func TestLateLeastFirst(t *testing.T) {
	b := start(t, usual(3, 1, 0, 4))
	for range 3 {
		b.tick()
	}
	b.hear(2)
	for range 36 {
		b.tick()
	}
	b.tick()
	b.events("late 2")
	b = start(t, usual(3, 1, 0, 4))
	b.tick()
	b.hear(0)
	for range 38 {
		b.tick()
	}
	b.tick()
	b.events("late 0")
}

// Heard in the tick ahead: from 39 ticks without a word on to 39 more, and so on.
func TestLateHeardAhead(t *testing.T) {
	b := start(t, usual(2, 1, 0, 4))
	for range 5 {
		for range 39 {
			if len(b.tick()) != 1 {
				t.Fatal("P21.4: late")
			}
		}
		b.hear()
	}
	for range 39 {
		b.tick()
	}
	b.silent()
	b.tick()
	b.events("late 0")
	b = start(t, usual(4, 0, 0, 4))
	for range 200 {
		b.tick()
		b.hear()
	}
	b.silent()
	if b.c.Closed() {
		t.Error("P21.4: closed")
	}
}

// Whatever a packet tells, its player was heard.
func TestHeardByAny(t *testing.T) {
	for i, p := range []api.Packet{
		{Kind: api.PInput}, {Kind: api.PInput, First: 1000, Press: []byte{1}}, {Kind: api.PInput, First: 5, Press: []byte{1}}, {Kind: api.PInput, Ack: 1000}, {Kind: api.PInput, Frame: 1000, Sum: 3}, {Kind: api.PInput, Press: []byte{9}},
	} {
		b := start(t, usual(2, 0, 1, 4))
		for range 39 {
			b.tick()
		}
		p.From = 1
		b.receive(p)
		if len(b.tick()) != 1 || b.c.Closed() {
			t.Errorf("P21.3, %d: not heard", i)
		}
	}
}

// A word ahead of its mark and behind it, with the mark's sum and another one.
func TestWords(t *testing.T) {
	for _, x := range []struct {
		marks int
		frame int
		sum   uint32
		event string // at once
		later string // behind one mark more
	}{
		{2, 0, 0, "", ""}, {2, 0, 9, "", ""}, {2, 1, 100, "", ""}, {2, 1, 99, "apart 2 1", ""}, {2, 2, 101, "", ""}, {2, 2, 100, "apart 2 2", ""},
		{2, 3, 102, "", ""}, {2, 3, 101, "", "apart 2 3"}, {2, 4, 0, "", ""}, {2, 1000, 0, "", ""}, {0, 1, 100, "", ""}, {0, 1, 0, "", "apart 2 1"}, {0, 2, 0, "", ""}, {0, 0, 100, "", ""},
	} {
		b := start(t, usual(3, 0, 0, 4))
		for i := range x.marks {
			b.mark(uint32(100 + i))
		}
		b.silent()
		b.receive(api.Packet{Kind: api.PInput, From: 2, Frame: x.frame, Sum: x.sum})
		if got := texts(b.c.Events()); x.event == "" && len(got) != 0 || x.event != "" && fmt.Sprint(got) != "["+x.event+"]" {
			t.Errorf("P21.5: the word %d, %d with %d marks: %q", x.frame, x.sum, x.marks, got)
		}
		b.r.events = nil
		b.mark(uint32(100 + x.marks))
		if got := texts(b.c.Events()); x.later == "" && len(got) != 0 || x.later != "" && fmt.Sprint(got) != "["+x.later+"]" {
			t.Errorf("P21.5: the word %d, %d with %d marks, later: %q", x.frame, x.sum, x.marks, got)
		}
		if b.c.Closed() {
			t.Error("P21.5: closed")
		}
	}
}

// Two words of one player, each of frames 0 to 4, right and wrong, and each number of marks ahead of, between and behind them.
func TestTwoWords(t *testing.T) {
	for frames := range 25 {
		for wrong := range 4 {
			for marks := range 125 {
				b := start(t, usual(2, 1, 0, 4))
				grow := func(by int) {
					for range by {
						b.mark(uint32(len(b.r.marks) + 50))
					}
				}
				word := func(frame, wrong int) {
					b.receive(api.Packet{Kind: api.PInput, From: 0, Frame: frame, Sum: uint32(frame + 49 + wrong)})
				}
				grow(marks % 5)
				word(frames%5, wrong&1)
				grow(marks / 5 % 5)
				word(frames/5, wrong>>1)
				grow(marks / 25)
				b.events()
			}
		}
	}
}

// A word below the last one is passed over, one at it comes in its place.
func TestWordsInOrder(t *testing.T) {
	b := start(t, usual(2, 1, 0, 4))
	say := func(frame int, sum uint32) {
		b.receive(api.Packet{Kind: api.PInput, From: 0, Frame: frame, Sum: sum})
	}
	b.mark(11)
	say(3, 99)
	say(2, 98)
	say(0, 97)
	say(1, 96)
	b.mark(12)
	b.silent()
	say(3, 13)
	b.mark(13)
	b.silent()
	say(5, 15)
	say(4, 1)
	b.mark(14)
	b.silent()
	say(5, 16)
	say(1, 1)
	b.mark(15)
	b.events("apart 0 5")
}

// Apart is told of each player once at most, however often its words are others.
func TestApartOnce(t *testing.T) {
	b := start(t, usual(4, 1, 0, 4))
	for i := range 20 {
		b.mark(uint32(i))
		for _, p := range b.others() {
			b.receive(api.Packet{Kind: api.PInput, From: p, Frame: i + 1, Sum: 1000})
		}
		if i == 0 {
			b.events("apart 0 1", "apart 2 1", "apart 3 1")
		}
		b.silent()
	}
	b.receive(api.Packet{Kind: api.PInput, From: 2, Frame: 20, Sum: 19})
	b.mark(20)
	b.receive(api.Packet{Kind: api.PInput, From: 2, Frame: 21, Sum: 0})
	b.silent()
}

// All players, rising, at one Mark, in whichever order their words came.
func TestApartRising(t *testing.T) {
	for _, order := range [][]int{{0, 1, 3, 4}, {4, 3, 1, 0}, {3, 0, 4, 1}, {1, 4, 0, 3}} {
		b := start(t, usual(5, 2, 0, 4))
		for _, p := range order {
			b.receive(api.Packet{Kind: api.PInput, From: p, Frame: 2, Sum: uint32(p)})
		}
		b.mark(0)
		b.silent()
		b.mark(3)
		b.events("apart 0 2", "apart 1 2", "apart 4 2")
	}
	b := start(t, usual(5, 2, 0, 4))
	for p, frame := range map[int]int{0: 3, 1: 1, 3: 2, 4: 1} {
		b.receive(api.Packet{Kind: api.PInput, From: p, Frame: frame, Sum: 9})
	}
	for range 4 {
		b.mark(8)
	}
	b.events("apart 1 1", "apart 4 1", "apart 3 2", "apart 0 3")
}

// Events stand in the order in which they came, of all kinds, until they are asked.
func TestEventsOrder(t *testing.T) {
	b := start(t, usual(4, 3, 0, 4))
	b.receive(api.Packet{Kind: api.PInput, From: 2, Frame: 1, Sum: 5})
	b.mark(6)
	b.receive(api.Packet{Kind: api.PInput, From: 0, Frame: 1, Sum: 4})
	b.receive(api.Packet{Kind: api.PQuit, From: 1})
	b.events("apart 2 1", "apart 0 1", "quit 1")
	b.silent()
	b = start(t, usual(4, 3, 0, 4))
	b.receive(api.Packet{Kind: api.PInput, From: 1, Frame: 1, Sum: 5})
	for range 40 {
		b.tick()
		b.hear(0, 2)
	}
	b.mark(6)
	b.events("late 0", "apart 1 1")
	b.silent()
}

// A thousand marks, and one more that is none.
func TestMarks(t *testing.T) {
	b := start(t, usual(3, 0, 0, 4))
	b.receive(api.Packet{Kind: api.PInput, From: 1, Frame: 1000, Sum: 3})
	b.receive(api.Packet{Kind: api.PInput, From: 2, Frame: 999, Sum: 999 * 7})
	for i := range 999 {
		b.mark(uint32(i+1) * 7)
	}
	b.silent()
	if got := b.tick()[0]; b.c.Marks() != 999 || got.Frame != 999 || got.Sum != 999*7 {
		t.Errorf("P21.5: 999 marks: %v", got)
	}
	b.mark(7000)
	b.events("apart 1 1000")
	b.receive(api.Packet{Kind: api.PInput, From: 2, Frame: 1000, Sum: 7000})
	for range 3 {
		b.mark(8)
		if got := b.tick()[1]; b.c.Marks() != 1000 || got.Frame != 1000 || got.Sum != 7000 {
			t.Errorf("P21.5: a thousand marks: %v", got)
		}
	}
	b.silent()
	b.receive(api.Packet{Kind: api.PInput, From: 2, Frame: 1000, Sum: 8})
	b.events("apart 2 1000")
}

// Each of a thousand marks is held against its own word.
func TestEachMark(t *testing.T) {
	for _, frame := range []int{1, 2, 3, 255, 256, 257, 500, 512, 998, 999, 1000} {
		b := start(t, usual(3, 0, 0, 4))
		for i := range 1000 {
			b.mark(uint32(i) * 2654435761)
		}
		b.receive(api.Packet{Kind: api.PInput, From: 1, Frame: frame, Sum: uint32(frame-1) * 2654435761})
		b.silent()
		b.receive(api.Packet{Kind: api.PInput, From: 2, Frame: frame, Sum: uint32(frame) * 2654435761})
		b.events(fmt.Sprintf("apart 2 %d", frame))
	}
}

// Marks hang on nothing that is known of the lines.
func TestMarksAheadOfFront(t *testing.T) {
	b := start(t, usual(2, 0, 0, 1))
	for i := range 50 {
		b.mark(uint32(i))
	}
	if b.c.Marks() != 50 || b.c.Queue().Front() != 0 {
		t.Errorf("P21.5: %d marks", b.c.Marks())
	}
}

// closings are the three ways in which a player comes to be closed.
var closings = []struct {
	name  string
	event string
	close func(b *both)
}{
	{"Quit", "", func(b *both) { b.quit() }},
	{"PQuit", "quit 2", func(b *both) { b.receive(api.Packet{Kind: api.PQuit, From: 2}) }},
	{"Late", "late 0", func(b *both) {
		for range 40 {
			b.tick()
		}
	}},
}

// All calls of a closed player: what it knows stays, and is told; a mark counts as ever, for the chapter says no other.
func TestClosed(t *testing.T) {
	for _, x := range closings {
		b := start(t, usual(3, 1, 1, 6))
		b.press(4)
		b.feed(0, 3)
		b.mark(10)
		b.receive(api.Packet{Kind: api.PInput, From: 2, Frame: 2, Sum: 5})
		b.silent()
		x.close(b)
		if !b.c.Closed() {
			t.Errorf("P21.6: behind %s: not closed", x.name)
		}
		if x.event != "" {
			b.events(x.event)
		}
		b.silent()
		for range 2 {
			if err := b.press(4); err != api.ErrClosed {
				t.Errorf("P21.2: behind %s: %v", x.name, err)
			}
			for _, p := range []api.Packet{{Kind: api.PInput, From: 0, First: 3, Press: []byte{1}, Ack: 2, Frame: 1, Sum: 3}, {Kind: api.PQuit, From: 0}} {
				if err := b.receive(p); err != api.ErrClosed {
					t.Errorf("P21.3: behind %s: %v", x.name, err)
				}
			}
			for _, bad := range [][]byte{nil, {1, 2, 3}, make([]byte, 50), packet.Encode(api.Packet{Kind: 1, From: 0, To: 2, Id: 77})} {
				if err := b.bytes(bad); err != api.ErrClosed {
					t.Errorf("P21.3: behind %s: %v", x.name, err)
				}
			}
			for range 50 {
				if got := b.tick(); got != nil {
					t.Errorf("P21.4: behind %s: %v", x.name, got)
				}
			}
			if b.quit(); !b.c.Closed() {
				t.Errorf("P21.6: behind %s: open again", x.name)
			}
			b.silent()
		}
		b.mark(11)
		b.events("apart 2 2")
	}
}

// Quit tells each other one, rising, once, and is no event.
func TestQuit(t *testing.T) {
	for n := 2; n <= 8; n++ {
		for me := range n {
			b := start(t, usual(n, me, 0, 4))
			b.tick()
			b.quit()
			if !b.c.Closed() {
				t.Error("P21.6: not closed")
			}
			b.quit()
			b.silent()
			if got := b.c.Quit(); len(got) != 0 {
				t.Errorf("P21.6: a second Quit: %v", got)
			}
		}
	}
}

// A nil player is closed, and tells nothing, however it is asked; one that New did not make panics at nothing.
func TestNil(t *testing.T) {
	var c *Core
	for range 2 {
		for _, b := range append(unlike(), packet.Encode(api.Packet{Kind: 1, From: 1, To: 0})) {
			if err := c.Receive(b); err != api.ErrClosed {
				t.Errorf("P21.6: Receive of nil: %v", err)
			}
		}
		for x := range 256 {
			if err := c.Press(byte(x)); err != api.ErrClosed {
				t.Errorf("P21.6: Press of nil: %v", err)
			}
			c.Mark(uint32(x))
		}
		if c.Conf() != (api.Conf{}) || c.Queue() != nil || c.Head() != 0 || len(c.Tick()) != 0 || len(c.Quit()) != 0 || c.Marks() != 0 || len(c.Events()) != 0 || !c.Closed() {
			t.Error("P21.6: nil")
		}
	}
	c = &Core{}
	for _, b := range append(unlike(), packet.Encode(api.Packet{Kind: 1, From: 1, To: 0}), packet.Encode(api.Packet{Kind: 2, From: 1, To: 0})) {
		if err := c.Receive(b); err != api.ErrForm {
			t.Errorf("P0.1: Receive of a zero Core: %v", err)
		}
	}
	if err := c.Press(1); err == api.OK || c.Head() != 0 || len(c.Tick()) != 0 {
		t.Errorf("P0.1: Press of a zero Core: %v", err)
	}
	c.Mark(1)
	if len(c.Quit()) != 0 || len(c.Events()) != 0 || !c.Closed() {
		t.Error("P0.1: a zero Core")
	}
}

// spoil writes into a list, its spare room too.
func spoil(b []byte) {
	b = b[:cap(b)]
	for i := range b {
		b[i] ^= 0xa5
	}
}

// P0.3: what was told is the caller's.
func TestMailsAreTheCallers(t *testing.T) {
	b := start(t, usual(4, 1, 2, 8))
	for i := range 8 {
		b.press(byte(i + 1))
	}
	b.mark(77)
	ask := func(tell func() []net.Mail, want []api.Packet) {
		mails := tell()
		b.isTold("P0.3", mails, want)
		for i := range mails {
			spoil(mails[i].B)
			for k := i + 1; k < len(mails); k++ {
				if !bytes.Equal(mails[k].B, packet.Encode(want[k])) {
					t.Errorf("P0.3: the mails %d and %d share memory", i, k)
				}
			}
		}
		all := mails[:cap(mails)]
		for i := range all {
			all[i] = net.Mail{From: 9, To: 9}
		}
		b.same()
	}
	for range 3 {
		kept := b.c.Tick()
		b.r.tick()
		var were []string
		for _, m := range kept {
			were = append(were, string(m.B))
		}
		ask(b.c.Tick, b.r.tick())
		for i, m := range kept {
			if string(m.B) != were[i] {
				t.Error("P0.3: two answers of Tick share memory")
			}
		}
	}
	ask(b.c.Quit, b.r.quit())
}

// P0.3: what was received is neither changed nor kept.
func TestReceivedIsNotKept(t *testing.T) {
	b := start(t, usual(3, 1, 0, 8))
	b.press(1)
	for round := range 5 {
		p := api.Packet{Kind: api.PInput, From: 2, To: 1, Id: 77, First: round * 6, Press: some(2, 6), Ack: 1, Frame: round + 1, Sum: 9}
		x := append(make([]byte, 0, 200), packet.Encode(p)...)
		copy(x[len(x):cap(x)], bytes.Repeat([]byte{123}, 200))
		kept := bytes.Clone(x[:cap(x)])
		if got, want := b.c.Receive(x), b.r.receive(kept[:len(x)]); got != want || !bytes.Equal(x[:cap(x)], kept) {
			t.Errorf("P0.3: Receive: %v, and the bytes are others", got)
		}
		spoil(x)
		b.same()
		b.tick()
	}
	x := []byte{1, 2, 3}
	if b.c.Receive(x); string(x) != "\x01\x02\x03" {
		t.Error("P0.3: Receive wrote into what it refused")
	}
}

// P0.3: what Events handed back is the caller's.
func TestEventsAreTheCallers(t *testing.T) {
	other, _ := event.Of(api.Raw{Kind: api.EQuit, Player: 7})
	for _, isWritten := range []bool{false, true} {
		b := start(t, usual(8, 0, 0, 8))
		var told [][]event.Event
		var were [][]string
		for i, p := range b.others() {
			b.mark(uint32(i))
			b.receive(api.Packet{Kind: api.PInput, From: p, Frame: i + 1, Sum: 99})
			// What happened since then is not told yet, while the caller writes into what was.
			for _, old := range told {
				for k := range old[:cap(old)] {
					if isWritten {
						old[:cap(old)][k] = other
					}
				}
			}
			if i%3 == 1 {
				continue
			}
			got := b.c.Events()
			if !slices.Equal(texts(got), b.r.events) {
				t.Errorf("P0.3: %q, not %q", texts(got), b.r.events)
			}
			told, were, b.r.events = append(told, got), append(were, b.r.events), nil
		}
		for i, got := range told {
			if !isWritten && !slices.Equal(texts(got), were[i]) {
				t.Errorf("P0.3: %q are %q by now", were[i], texts(got))
			}
		}
		b.receive(api.Packet{Kind: api.PQuit, From: 7})
		b.events("quit 7")
		b.silent()
	}
}

// What the queue's lines know is what Queue tells, however early it was asked.
func TestQueueIsThePlayers(t *testing.T) {
	b := start(t, usual(3, 1, 1, 8))
	q := b.c.Queue()
	b.press(6)
	b.feed(0, 5)
	b.feed(2, 9)
	if q.Line(1).Len() != 2 || q.Line(0).Len() != 5 || q.Line(2).Len() != 9 || q.Front() != 2 {
		t.Errorf("P21.1: %d, %d, %d, Front %d", q.Line(0).Len(), q.Line(1).Len(), q.Line(2).Len(), q.Front())
	}
}

// packetTo is a packet without a pattern, mostly one that is plausible to that player.
func packetTo(n *noise, r *reading) api.Packet {
	p := api.Packet{Kind: api.PInput, From: n.next(r.conf.N), To: r.conf.Me, Id: r.conf.Id}
	near := func(at int) int { return min(max(at+n.next(9)-4, 0), 1000) }
	p.First = near(len(r.line(p.From)))
	p.Press = n.bytes(n.next(1 + n.next(33)))
	p.Ack = near(r.head())
	if n.next(2) == 0 {
		p.Ack = near(r.has(p.From))
	}
	if n.next(3) == 0 {
		frame, _ := r.word(p.From)
		p.Frame = near(max(frame, len(r.marks)))
	}
	p.Sum = uint32(p.Frame)
	if n.next(12) == 0 {
		p.Sum = uint32(n.next(3))
	}
	switch n.next(150) {
	case 0:
		p = api.Packet{Kind: api.PQuit, From: p.From, To: p.To, Id: p.Id}
	case 1, 2, 3:
		p.Id ^= 1
	case 4, 5, 6:
		p.To = n.next(8)
	case 7, 8, 9:
		p.From = n.next(8)
	case 10:
		p.First, p.Ack, p.Frame = n.next(1001), n.next(1001), n.next(1001)
	}
	return p
}

// bytesTo are mostly a packet's, now and then spoilt ones.
func bytesTo(n *noise, r *reading) []byte {
	b := packet.Encode(packetTo(n, r))
	switch n.next(25) {
	case 0:
		return n.bytes(n.next(40))
	case 1:
		if len(b) > 0 {
			b[n.next(len(b))] ^= byte(1 + n.next(255))
		}
	case 2:
		return b[:n.next(len(b)+1)]
	}
	return b
}

// act does one thing of any kind.
func (b *both) act(n *noise, ticks int) {
	b.t.Helper()
	switch k := n.next(100); {
	case k < 35:
		b.press(byte(n.next(4)))
	case k < 75:
		b.bytes(bytesTo(n, &b.r))
	case k < 75+ticks:
		b.tick()
	case k < 95:
		sum := uint32(len(b.r.marks) + 1)
		if n.next(40) == 0 {
			sum = 1
		}
		b.mark(sum)
	case k < 99:
		b.events()
	case n.next(6) == 0:
		b.quit()
	}
}

// Whole runs of calls of any kind, each answer held against the second reading.
func TestRuns(t *testing.T) {
	closed, lines := 0, 0
	for seed := range 400 {
		n := noise(seed)
		players := 2 + seed%7
		c := usual(players, n.next(players), n.next(9), 1+n.next(16))
		c.Id = []int64{0, 5, 1 << 40, 1<<33 + 1}[n.next(4)]
		if n.next(3) == 0 {
			c.Delay = 0
		}
		b := start(t, c)
		for range 150 {
			b.act(&n, 2+seed%17)
		}
		b.events()
		if b.r.closed {
			closed++
		}
		lines += b.r.front()
	}
	if closed < 50 || closed > 350 || lines < 4000 {
		t.Errorf("the runs are no ordinary ones: %d of 400 were closed, %d frames", closed, lines)
	}
}

// table is a game's players, with the mails that are on their way between them.
type table struct {
	t       *testing.T
	players []*both
	way     *net.Net
	wrong   int // the player whose games are others; -1: nobody
}

func sit(t *testing.T, n, delay, window int) *table {
	x := &table{t: t, way: net.New(), wrong: -1}
	for me := range n {
		x.players = append(x.players, start(t, usual(n, me, delay, window)))
	}
	return x
}

// tick sends what that player tells.
func (x *table) tick(p int) {
	b := x.players[p]
	want := b.r.tick()
	mails := b.c.Tick()
	b.isTold("P21.4: Tick", mails, want)
	for _, m := range mails {
		x.way.Send(m)
	}
}

// come lets the i-th mail come, and its player mark what all pressed by then.
func (x *table) come(i int) {
	m, ok := x.way.Take(i)
	if !ok {
		return
	}
	b := x.players[m.To]
	if err := b.bytes(m.B); err != api.OK {
		x.t.Fatalf("P21.3: the mail from %d to %d: %v", m.From, m.To, err)
	}
	for f := b.c.Marks(); f < b.c.Queue().Front(); f++ {
		all, _ := b.c.Queue().Joint(f)
		sum := crc32.ChecksumIEEE(append(all, byte(f)))
		if m.To == x.wrong {
			sum++
		}
		b.mark(sum)
	}
}

// Players of two to eight that play over a net that loses and turns: all come to know the same.
func TestTables(t *testing.T) {
	for n := 2; n <= 8; n++ {
		for _, delay := range []int{0, 3} {
			x := sit(t, n, delay, 3+n)
			noise := noise(n*10 + delay)
			for range 45 {
				for p, b := range x.players {
					b.press(byte(noise.next(256)))
					x.tick(p)
				}
				for x.way.Len() > n {
					if at := noise.next(x.way.Len()); noise.next(3) == 0 {
						x.way.Drop(at)
					} else {
						x.come(at)
					}
				}
			}
			for x.way.Len() > 0 {
				x.come(0)
			}
			x.agree(30)
		}
	}
}

// agree: nothing happened, all went on, and any two know the same.
func (x *table) agree(least int) {
	x.t.Helper()
	first := x.players[0].c.Queue()
	for p, b := range x.players {
		b.silent()
		front := min(first.Front(), b.c.Queue().Front())
		if front < least || b.c.Closed() {
			x.t.Errorf("P21.4: the player %d of %d came to %d alone", p, len(x.players), front)
		}
		for f := range front {
			all, _ := first.Joint(f)
			if got, _ := b.c.Queue().Joint(f); !bytes.Equal(got, all) {
				x.t.Errorf("P21.3: the frame %d of the players 0 and %d: %v, %v", f, p, all, got)
			}
		}
	}
}

// A player whose games are others is told of as apart by all others, and tells of all others.
func TestApartAtTheTable(t *testing.T) {
	for n := 2; n <= 8; n++ {
		for wrong := range n {
			x := sit(t, n, 1, 4)
			x.wrong = wrong
			for range 4 {
				for p, b := range x.players {
					b.press(7)
					x.tick(p)
				}
				for x.way.Len() > 0 {
					x.come(0)
				}
			}
			for p, b := range x.players {
				want := []int{wrong}
				if p == wrong {
					want = b.others()
				}
				if got := apartFrom(b.c.Events()); !slices.Equal(got, want) {
					t.Errorf("P21.5: the player %d of %d, with %d another one: apart from %v", p, n, wrong, got)
				}
			}
		}
	}
}

// apartFrom are the players of events that are all Apart, rising.
func apartFrom(events []event.Event) []int {
	var players []int
	for _, e := range events {
		if event.Raw(e).Kind == api.EApart {
			players = append(players, e.Player())
		}
	}
	slices.Sort(players)
	return players
}

// A whole game, up to the frame 1,000 of all.
func TestToTheEnd(t *testing.T) {
	b := start(t, usual(2, 0, 2, 16))
	b.lead(1000, 1000)
	for i := range 1001 {
		b.c.Mark(uint32(i))
		b.r.mark(uint32(i))
	}
	b.receive(api.Packet{Kind: api.PInput, From: 1, First: 1000, Press: []byte{1}, Ack: 990, Frame: 1000, Sum: 999})
	told := b.tick()[0]
	if told.First != 990 || len(told.Press) != 10 || told.Ack != 1000 || told.Frame != 1000 || told.Sum != 999 {
		t.Errorf("P21.4: %v", told)
	}
	b.receive(api.Packet{Kind: api.PInput, From: 1, Ack: 1000})
	if told := b.tick()[0]; told.First != 1000 || len(told.Press) != 0 {
		t.Errorf("P21.4: %v", told)
	}
	b.silent()
}
