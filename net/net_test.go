package net

import (
	"bytes"
	"fmt"
	"math"
	"testing"
)

// wide: numbers that are far from each place, those too that come to a place when they lose their upper bits.
var wide = []int{
	-2, -3, -255, -256, -299, -300, -1000, -1 << 16, math.MinInt32, math.MinInt32 - 1, -1 << 32, -1<<32 + 1, -1 << 40, math.MinInt, math.MinInt + 1, math.MinInt + 299,
	301, 302, 999, 1000, 1001, 1 << 16, 1<<16 + 1, math.MaxInt32, 1 << 31, 1 << 32, 1<<32 + 1, 1 << 40, 1<<62 + 1, math.MaxInt - 1, math.MaxInt,
}

// noise gives numbers without a pattern that is short, always the same of one seed.
type noise uint32

func (n *noise) next(below int) int {
	*n = 1664525**n + 1013904223
	return int(uint64(*n^*n>>13) * uint64(below) >> 32)
}

func (n *noise) bytes(count int) []byte {
	b := make([]byte, count)
	for i := range b {
		b[i] = byte(n.next(256))
	}
	return b
}

// mail is a mail as a value: nobody can write into its text.
type mail struct {
	from, to int
	text     string
}

func (m mail) String() string { return fmt.Sprintf("{%d %d %q}", m.from, m.to, m.text) }

func valueOf(m Mail) mail { return mail{m.From, m.To, string(m.B)} }

func (m mail) Mail() Mail { return Mail{From: m.from, To: m.to, B: []byte(m.text)} }

// some is a mail that is not the same as that of any other number below 2^24, of just so many bytes.
func some(number, count int) mail {
	b := make([]byte, count)
	for i := range b {
		b[i] = byte(number*7 + i*13 + i>>8)
	}
	return mail{number, -number - 1, string(b)}
}

// scribble writes into all of a list, and into its spare room.
func scribble(b []byte) {
	b = b[:cap(b)]
	for i := range b {
		b[i] ^= 0xa5
	}
}

// netOf is a net with just these mails on their way.
func netOf(t *testing.T, mails ...mail) *Net {
	t.Helper()
	n := New()
	for i, m := range mails {
		if !n.Send(m.Mail()) {
			t.Fatalf("P16.1: Send of the mail %d: false", i)
		}
	}
	holds(t, n, mails)
	return n
}

// holds: just these mails are on their way, in this order.
func holds(t *testing.T, n *Net, want []mail) {
	t.Helper()
	if got := n.Len(); got != len(want) {
		t.Fatalf("P16.1: Len: %d, not %d", got, len(want))
	}
	for i, m := range want {
		if got, ok := n.Look(i); valueOf(got) != m || !ok {
			t.Fatalf("P16.1: Look(%d) of %d: %v, %t, not %v", i, len(want), got, ok, m)
		}
	}
	for _, i := range []int{-1, len(want)} {
		if got, ok := n.Look(i); !isZero(got) || ok {
			t.Fatalf("P16.1: Look(%d) of %d: %v, %t", i, len(want), got, ok)
		}
	}
}

func isZero(m Mail) bool { return m.From == 0 && m.To == 0 && len(m.B) == 0 }

// without are the mails without the i-th.
func without(mails []mail, i int) []mail {
	rest := append([]mail{}, mails[:i]...)
	return append(rest, mails[i+1:]...)
}

// spoilt are the mails with the i-th one's byte at exclusive-or x.
func spoilt(mails []mail, i, at int, x byte) []mail {
	all := append([]mail{}, mails...)
	b := []byte(all[i].text)
	b[at] ^= x
	all[i].text = string(b)
	return all
}

// refuses: Take, Look, Drop and Spoil of what is not there are false and change nothing.
func refuses(t *testing.T, n *Net, want []mail, i int) {
	t.Helper()
	if m, ok := n.Take(i); !isZero(m) || ok {
		t.Fatalf("P16.1: Take(%d) of %d: %v, %t", i, len(want), m, ok)
	}
	if m, ok := n.Look(i); !isZero(m) || ok {
		t.Fatalf("P16.1: Look(%d) of %d: %v, %t", i, len(want), m, ok)
	}
	if n.Drop(i) {
		t.Fatalf("P16.1: Drop(%d) of %d: true", i, len(want))
	}
	for _, at := range append([]int{-1, 0, 1, 2, 3}, wide...) {
		if n.Spoil(i, at, 1) {
			t.Fatalf("P16.1: Spoil(%d, %d, 1) of %d: true", i, at, len(want))
		}
	}
}

func TestNewHasNone(t *testing.T) {
	n := New()
	holds(t, n, nil)
	for _, i := range append([]int{-1, 0, 1, 299, 300}, wide...) {
		refuses(t, n, nil, i)
	}
	holds(t, n, nil)
}

func TestMailsInTheirOrder(t *testing.T) {
	n := New()
	for _, m := range []Mail{{1, 2, []byte("abc")}, {2, 1, []byte("de")}, {1, 2, nil}, {0, 7, []byte("abc")}} {
		if !n.Send(m) {
			t.Fatalf("P16.1: Send(%v): false", m)
		}
	}
	holds(t, n, []mail{{1, 2, "abc"}, {2, 1, "de"}, {1, 2, ""}, {0, 7, "abc"}})
	if m, ok := n.Take(1); valueOf(m) != (mail{2, 1, "de"}) || !ok {
		t.Fatalf("P16.1: Take(1): %v, %t", m, ok)
	}
	holds(t, n, []mail{{1, 2, "abc"}, {1, 2, ""}, {0, 7, "abc"}})
	if !n.Spoil(2, 1, 3) {
		t.Fatal("P16.1: Spoil(2, 1, 3): false")
	}
	holds(t, n, []mail{{1, 2, "abc"}, {1, 2, ""}, {0, 7, "aac"}})
	if !n.Drop(0) {
		t.Fatal("P16.1: Drop(0): false")
	}
	holds(t, n, []mail{{1, 2, ""}, {0, 7, "aac"}})
	if !n.Send(Mail{3, 4, []byte{0, 255}}) {
		t.Fatal("P16.1: Send behind Drop: false")
	}
	holds(t, n, []mail{{1, 2, ""}, {0, 7, "aac"}, {3, 4, "\x00\xff"}})
	if m, ok := n.Take(2); valueOf(m) != (mail{3, 4, "\x00\xff"}) || !ok {
		t.Fatalf("P16.1: Take(2): %v, %t", m, ok)
	}
	if m, ok := n.Take(0); valueOf(m) != (mail{1, 2, ""}) || !ok {
		t.Fatalf("P16.1: Take(0): %v, %t", m, ok)
	}
	if m, ok := n.Take(0); valueOf(m) != (mail{0, 7, "aac"}) || !ok {
		t.Fatalf("P16.1: the last Take(0): %v, %t", m, ok)
	}
	holds(t, n, nil)
}

// Of each number of mails each one may be looked at, taken or dropped, and the others come up behind it.
func TestEachPlace(t *testing.T) {
	for _, count := range []int{1, 2, 3, 4, 5, 17, 64, 299, 300} {
		var mails []mail
		for i := range count {
			mails = append(mails, some(i, i%9))
		}
		for _, i := range []int{0, 1, 2, count / 2, count - 2, count - 1} {
			if i < 0 || i >= count {
				continue
			}
			n := netOf(t, mails...)
			if m, ok := n.Take(i); valueOf(m) != mails[i] || !ok {
				t.Fatalf("P16.1: Take(%d) of %d: %v, %t", i, count, m, ok)
			}
			holds(t, n, without(mails, i))
			n = netOf(t, mails...)
			if !n.Drop(i) {
				t.Fatalf("P16.1: Drop(%d) of %d: false", i, count)
			}
			holds(t, n, without(mails, i))
		}
		n := netOf(t, mails...)
		for _, i := range append([]int{-1, count, count + 1}, wide...) {
			refuses(t, n, mails, i)
		}
		holds(t, n, mails)
	}
}

func TestLookLeavesIt(t *testing.T) {
	mails := []mail{some(1, 3), some(2, 0), some(3, 1000)}
	n := netOf(t, mails...)
	for range 400 {
		for i, want := range mails {
			if m, ok := n.Look(i); valueOf(m) != want || !ok {
				t.Fatalf("P16.1: Look(%d) again: %v, %t", i, m, ok)
			}
		}
	}
	holds(t, n, mails)
}

func TestThreeHundred(t *testing.T) {
	n := New()
	var mails []mail
	for i := range 300 {
		mails = append(mails, some(i, i%5))
		if !n.Send(mails[i].Mail()) || n.Len() != i+1 {
			t.Fatalf("P16.1: Send behind %d: false, or Len %d", i, n.Len())
		}
		if i == 298 {
			holds(t, n, mails)
		}
	}
	holds(t, n, mails)
	full := func() {
		t.Helper()
		for _, m := range []mail{{}, some(1000, 1), some(1001, 1000), some(1002, 1001)} {
			if n.Send(m.Mail()) {
				t.Fatal("P16.1: Send behind 300: true")
			}
		}
		holds(t, n, mails)
	}
	full()
	more := 300
	for _, i := range []int{0, 299, 150, 298, 1, 0, 0, 299} {
		if m, ok := n.Take(i); valueOf(m) != mails[i] || !ok {
			t.Fatalf("P16.1: Take(%d) of 300: %v, %t", i, m, ok)
		}
		mails = append(without(mails, i), some(more, 4))
		if !n.Send(some(more, 4).Mail()) {
			t.Fatalf("P16.1: Send behind 299, when one was taken at %d: false", i)
		}
		full()
		if !n.Drop(i) {
			t.Fatalf("P16.1: Drop(%d) of 300: false", i)
		}
		mails = append(without(mails, i), some(more+1, 5))
		if !n.Send(some(more+1, 5).Mail()) {
			t.Fatalf("P16.1: Send behind 299, when one was dropped at %d: false", i)
		}
		full()
		more += 2
	}
}

// Neither a look nor a refusal makes room, and what was spoilt still takes its place.
func TestOnlyWhatGoesMakesRoom(t *testing.T) {
	n := New()
	for i := range 300 {
		n.Send(some(i, 3).Mail())
	}
	n.Look(0)
	n.Take(300)
	n.Drop(-1)
	n.Spoil(0, 0, 255)
	if n.Send(Mail{}) || n.Len() != 300 {
		t.Errorf("P16.1: a 301st mail is on its way: Len %d", n.Len())
	}
}

// Many more than 300 may go their way, one behind the other.
func TestManyGo(t *testing.T) {
	n := New()
	var mails []mail
	for i := range 5000 {
		m := some(i, i%11)
		if !n.Send(m.Mail()) {
			t.Fatalf("P16.1: Send of the mail %d: false", i)
		}
		mails = append(mails, m)
		if len(mails) == 3 {
			if m, ok := n.Take(0); valueOf(m) != mails[0] || !ok {
				t.Fatalf("P16.1: Take(0) behind the mail %d: %v, %t", i, m, ok)
			}
			mails = mails[1:]
		}
	}
	holds(t, n, mails)
}

func TestThousandBytes(t *testing.T) {
	first := some(1, 2)
	for count := range 1040 {
		want := []mail{first}
		n := netOf(t, want...)
		m := some(2, count)
		ok := n.Send(m.Mail())
		if ok != (count <= 1000) {
			t.Fatalf("P16.1: Send of %d bytes: %t", count, ok)
		}
		if ok {
			want = append(want, m)
		}
		holds(t, n, want)
		if n.Send(some(3, 1).Mail()); n.Len() != len(want)+1 {
			t.Fatalf("P16.1: Send behind one of %d bytes: Len %d", count, n.Len())
		}
		holds(t, n, append(want, some(3, 1)))
	}
	n := netOf(t, first)
	for _, count := range []int{1999, 2000, 2001, 4096, 1 << 16, 1<<16 + 1, 1<<16 + 1000, 1 << 20} {
		if n.Send(Mail{B: make([]byte, count)}) {
			t.Fatalf("P16.1: Send of %d bytes: true", count)
		}
	}
	holds(t, n, []mail{first})
}

// A refused mail is lost: it does not come when there is room again.
func TestRefusedIsLost(t *testing.T) {
	n := New()
	var mails []mail
	for i := range 300 {
		mails = append(mails, some(i, 1))
		n.Send(mails[i].Mail())
	}
	for i := range 50 {
		if n.Send(some(900+i, 1).Mail()) {
			t.Fatal("P16.1: Send behind 300: true")
		}
	}
	for len(mails) > 0 {
		if m, ok := n.Take(0); valueOf(m) != mails[0] || !ok {
			t.Fatalf("P16.1: Take(0): %v, %t, not %v", m, ok, mails[0])
		}
		mails = mails[1:]
		if n.Len() != len(mails) {
			t.Fatalf("P16.1: Len %d, not %d", n.Len(), len(mails))
		}
	}
	holds(t, n, nil)
}

// A nil list is the same as an empty one, and spare room is neither counted nor sent.
func TestBytesAsList(t *testing.T) {
	room := make([]byte, 5000)
	for i := range room {
		room[i] = byte(i)
	}
	for _, b := range [][]byte{nil, {}, room[:0], room[:1], room[3:1000], room[:1000], room[1000:2000], room[4999:5000]} {
		n := New()
		if !n.Send(Mail{From: 5, To: 6, B: b}) {
			t.Fatalf("P16.1: Send of %d bytes with room for %d: false", len(b), cap(b))
		}
		holds(t, n, []mail{{5, 6, string(b)}})
		if m, ok := n.Take(0); m.From != 5 || m.To != 6 || !bytes.Equal(m.B, b) || !ok {
			t.Fatalf("P16.1: Take of %d bytes: %v, %t", len(b), m, ok)
		}
	}
	if New().Send(Mail{B: room[:1001]}) {
		t.Error("P16.1: Send of 1001 bytes: true")
	}
}

// Whom a mail is from and whom it is to is nothing to the net.
func TestFromAndToAreAnything(t *testing.T) {
	numbers := append([]int{-1, 0, 1, 7, 8, 9, 299, 300}, wide...)
	for _, from := range numbers {
		var mails []mail
		for _, to := range numbers {
			mails = append(mails, mail{from, to, "x"})
		}
		n := netOf(t, mails...)
		for _, want := range mails {
			if m, ok := n.Take(0); valueOf(m) != want || !ok {
				t.Fatalf("P16.1: Take(0): %v, %t, not %v", m, ok, want)
			}
		}
	}
}

func TestSpoilEachByte(t *testing.T) {
	mails := []mail{some(1, 4), some(2, 7), some(3, 1), some(4, 1000)}
	for i, m := range mails {
		places := []int{0, 1, 2, 3, 5, 6, 255, 256, 257, 500, 998, 999}
		for _, at := range places {
			if at >= len(m.text) {
				continue
			}
			for x := range 256 {
				n := netOf(t, mails...)
				if !n.Spoil(i, at, byte(x)) {
					t.Fatalf("P16.1: Spoil(%d, %d, %d): false", i, at, x)
				}
				want := spoilt(mails, i, at, byte(x))
				holds(t, n, want)
				if m, ok := n.Take(i); valueOf(m) != want[i] || !ok {
					t.Fatalf("P16.1: Take(%d) behind Spoil: %v, %t", i, m, ok)
				}
			}
		}
	}
}

func TestSpoilTwice(t *testing.T) {
	mails := []mail{some(1, 3), {4, 5, "\x00\xff\x80"}}
	for i := range mails {
		for at := range 3 {
			for x := range 256 {
				n := netOf(t, mails...)
				if !n.Spoil(i, at, byte(x)) || !n.Spoil(i, at, byte(x)) {
					t.Fatalf("P16.1: Spoil(%d, %d, %d) twice: false", i, at, x)
				}
				holds(t, n, mails)
				if !n.Spoil(i, at, byte(x)) || !n.Spoil(i, at, 255) {
					t.Fatalf("P16.1: Spoil(%d, %d, %d) and by 255: false", i, at, x)
				}
				holds(t, n, spoilt(mails, i, at, byte(x)^255))
			}
		}
	}
}

func TestSpoilWhatIsNotThere(t *testing.T) {
	mails := []mail{some(1, 3), some(2, 0), some(3, 1), some(4, 1000)}
	n := netOf(t, mails...)
	for i, m := range mails {
		for _, at := range append([]int{-1, len(m.text), len(m.text) + 1}, wide...) {
			if at >= 0 && at < len(m.text) {
				continue
			}
			for _, x := range []byte{0, 1, 255} {
				if n.Spoil(i, at, x) {
					t.Fatalf("P16.1: Spoil(%d, %d, %d) of %d bytes: true", i, at, x, len(m.text))
				}
			}
		}
	}
	for _, i := range append([]int{-1, 4, 5}, wide...) {
		for _, at := range append([]int{-1, 0, 2, 999, 1000}, wide...) {
			for _, x := range []byte{0, 1, 255} {
				if n.Spoil(i, at, x) {
					t.Fatalf("P16.1: Spoil(%d, %d, %d) of 4 mails: true", i, at, x)
				}
			}
		}
	}
	holds(t, n, mails)
}

// Spoil by 0 tells whether the byte is there, and leaves it.
func TestSpoilByNothing(t *testing.T) {
	mails := []mail{some(1, 2), some(2, 0)}
	n := netOf(t, mails...)
	for at := -2; at < 4; at++ {
		if got := n.Spoil(0, at, 0); got != (at == 0 || at == 1) {
			t.Errorf("P16.1: Spoil(0, %d, 0) of 2 bytes: %t", at, got)
		}
		if n.Spoil(1, at, 0) {
			t.Errorf("P16.1: Spoil(1, %d, 0) of no bytes: true", at)
		}
	}
	holds(t, n, mails)
}

// One list sent often is as many mails: of these only the spoilt one is another.
func TestOneListSentOften(t *testing.T) {
	b := []byte("same")
	n := New()
	var mails []mail
	for range 10 {
		n.Send(Mail{From: 1, To: 2, B: b})
		mails = append(mails, mail{1, 2, "same"})
	}
	n.Spoil(4, 0, 1)
	holds(t, n, spoilt(mails, 4, 0, 1))
	if string(b) != "same" {
		t.Errorf("P16.1: Spoil wrote into the list that was sent: %q", b)
	}
	// What was looked at and is sent again is a mail of its own, too.
	m, _ := n.Look(4)
	n.Send(m)
	n.Spoil(4, 3, 255)
	want := append(spoilt(mails, 4, 0, 1), mail{1, 2, "rame"})
	holds(t, n, spoilt(want, 4, 3, 255))
	if string(m.B) != "rame" {
		t.Errorf("P16.1: Spoil wrote into what Look answered: %q", m.B)
	}
}

func TestSenderWritesOn(t *testing.T) {
	for _, count := range []int{1, 2, 31, 32, 33, 999, 1000} {
		want := some(1, count)
		list := make([]byte, count+40)
		for i := range list {
			list[i] = 'r'
		}
		copy(list[20:], want.text)
		n := New()
		n.Send(Mail{From: want.from, To: want.to, B: list[20 : 20+count]})
		if string(list[20:20+count]) != want.text || !allAre(list[:20], 'r') || !allAre(list[20+count:], 'r') {
			t.Errorf("P16.1, P0.3: Send changed the list, or the room beside it: %q", list)
		}
		scribble(list)
		holds(t, n, []mail{want})
		kept := bytes.Clone(list)
		n.Spoil(0, 0, 255)
		n.Take(0)
		if !bytes.Equal(list, kept) {
			t.Error("P16.1, P0.3: Spoil or Take wrote into the list that was sent")
		}
	}
	// A refused list is not changed either.
	list := bytes.Repeat([]byte{'q'}, 1001)
	if New().Send(Mail{B: list}) || !allAre(list, 'q') {
		t.Error("P16.1, P0.3: Send changed a refused list")
	}
}

func allAre(list []byte, b byte) bool { return bytes.Count(list, []byte{b}) == len(list) }

func TestReaderWritesOn(t *testing.T) {
	mails := []mail{some(1, 1), some(2, 33), some(3, 1000), some(4, 0), some(5, 7)}
	n := netOf(t, mails...)
	var looked [][]byte
	for range 3 {
		for i := range mails {
			m, _ := n.Look(i)
			looked = append(looked, m.B)
		}
	}
	for k, b := range looked {
		if string(b) != mails[k%5].text {
			t.Fatalf("P16.1, P0.3: what was written into an answer is in the answer %d too", k)
		}
		scribble(b)
	}
	holds(t, n, mails)
	first, _ := n.Look(1)
	taken, _ := n.Take(1)
	second, _ := n.Look(1)
	scribble(taken.B)
	if string(first.B) != mails[1].text || string(second.B) != mails[2].text {
		t.Error("P16.1, P0.3: what was written into Take's answer is in Look's too")
	}
	holds(t, n, without(mails, 1))
}

// What was taken stays as it was, whatever comes behind.
func TestTakenStays(t *testing.T) {
	n := netOf(t, some(1, 40), some(2, 40))
	m, _ := n.Take(0)
	looked, _ := n.Look(0)
	n.Spoil(0, 0, 255)
	for i := range 310 {
		n.Send(some(i, 40).Mail())
		n.Spoil(i, 1, 255)
	}
	for n.Len() > 0 {
		n.Drop(0)
	}
	if valueOf(m) != some(1, 40) || valueOf(looked) != some(2, 40) {
		t.Errorf("P16.1, P0.3: the mails that were answered are others: %v, %v", m, looked)
	}
}

func TestNil(t *testing.T) {
	var n *Net
	numbers := append([]int{-1, 0, 1, 299, 300}, wide...)
	for _, count := range []int{0, 1, 1000, 1001} {
		if n.Send(some(1, count).Mail()) || n.Len() != 0 {
			t.Errorf("P16.1: a nil Net: Send of %d bytes is true, or Len %d", count, n.Len())
		}
	}
	if n.Send(Mail{}) {
		t.Error("P16.1: a nil Net: Send of a zero mail: true")
	}
	for _, i := range numbers {
		if m, ok := n.Take(i); !isZero(m) || ok {
			t.Errorf("P16.1: a nil Net: Take(%d): %v, %t", i, m, ok)
		}
		if m, ok := n.Look(i); !isZero(m) || ok {
			t.Errorf("P16.1: a nil Net: Look(%d): %v, %t", i, m, ok)
		}
		if n.Drop(i) {
			t.Errorf("P16.1: a nil Net: Drop(%d): true", i)
		}
		for _, at := range numbers {
			if n.Spoil(i, at, 0) || n.Spoil(i, at, 255) {
				t.Errorf("P16.1: a nil Net: Spoil(%d, %d): true", i, at)
			}
		}
	}
	if n.Len() != 0 {
		t.Errorf("P16.1: a nil Net: Len %d", n.Len())
	}
}

// Two nets know nothing of one another.
func TestTwoNets(t *testing.T) {
	a, b := New(), New()
	shared := []byte("abc")
	a.Send(Mail{From: 1, B: shared})
	holds(t, b, nil)
	b.Send(Mail{From: 1, B: shared})
	a.Spoil(0, 0, 7)
	holds(t, b, []mail{{1, 0, "abc"}})
	b.Drop(0)
	holds(t, a, []mail{{1, 0, "fbc"}})
	for range 300 {
		b.Send(Mail{})
	}
	if !a.Send(Mail{}) {
		t.Error("P0.5: another net's mails take this one's room")
	}
}

// pair is a net, and what the chapter says of it.
type pair struct {
	t     *testing.T
	net   *Net
	mails []mail
}

func (p *pair) send(m mail) {
	p.t.Helper()
	may := len(p.mails) < 300 && len(m.text) <= 1000
	if got := p.net.Send(m.Mail()); got != may {
		p.t.Fatalf("P16.1: Send of %d bytes behind %d mails: %t", len(m.text), len(p.mails), got)
	}
	if may {
		p.mails = append(p.mails, m)
	}
}

func (p *pair) has(i int) bool { return i >= 0 && i < len(p.mails) }

func (p *pair) wants(i int) (mail, bool) {
	if !p.has(i) {
		return mail{}, false
	}
	return p.mails[i], true
}

func (p *pair) look(i int) {
	p.t.Helper()
	want, may := p.wants(i)
	if m, ok := p.net.Look(i); valueOf(m) != want || ok != may {
		p.t.Fatalf("P16.1: Look(%d) of %d: %v, %t, not %v, %t", i, len(p.mails), m, ok, want, may)
	}
}

func (p *pair) take(i int) {
	p.t.Helper()
	want, may := p.wants(i)
	m, ok := p.net.Take(i)
	if valueOf(m) != want || ok != may {
		p.t.Fatalf("P16.1: Take(%d) of %d: %v, %t, not %v, %t", i, len(p.mails), m, ok, want, may)
	}
	scribble(m.B)
	if may {
		p.mails = without(p.mails, i)
	}
}

func (p *pair) drop(i int) {
	p.t.Helper()
	may := p.has(i)
	if ok := p.net.Drop(i); ok != may {
		p.t.Fatalf("P16.1: Drop(%d) of %d: %t", i, len(p.mails), ok)
	}
	if may {
		p.mails = without(p.mails, i)
	}
}

func (p *pair) spoil(i, at int, x byte) {
	p.t.Helper()
	may := p.has(i) && at >= 0 && at < len(p.mails[i].text)
	if ok := p.net.Spoil(i, at, x); ok != may {
		p.t.Fatalf("P16.1: Spoil(%d, %d, %d) of %d: %t", i, at, x, len(p.mails), ok)
	}
	if may {
		p.mails = spoilt(p.mails, i, at, x)
	}
}

// do does one of 15 things; number tells mails from one another.
func (p *pair) do(what, number int) {
	p.t.Helper()
	switch {
	case what < 3:
		p.send(some(number, what))
	case what < 7:
		p.take(what - 4)
	case what < 11:
		p.drop(what - 8)
	case what < 14:
		p.spoil(what-11, 1, 0x55)
	default:
		p.spoil(0, 0, 0xff)
	}
}

// Each row of four things, one behind the other, from none and from two mails on.
func TestAllShortRows(t *testing.T) {
	const things, length = 15, 4
	rows := 1
	for range length {
		rows *= things
	}
	for row := range rows {
		for _, start := range []int{0, 2} {
			p := &pair{t: t, net: New()}
			for i := range start {
				p.send(some(100+i, 2))
			}
			for k, rest := 0, row; k < length; k, rest = k+1, rest/things {
				p.do(rest%things, k)
			}
			holds(t, p.net, p.mails)
		}
	}
}

// Long rows without a pattern, that go up to 300 and down again.
func TestLongRows(t *testing.T) {
	full := 0
	for seed := range 30 {
		r := noise(seed*7919 + 1)
		p := &pair{t: t, net: New()}
		for k := range 3600 {
			up := 1
			if k/1200%2 == 0 {
				up = 12
			}
			if len(p.mails) == 300 {
				full++
			}
			i := r.next(len(p.mails)+2) - 1
			switch what := r.next(20); {
			case what < up:
				count := []int{0, 1, 2, 7, 40, 999, 1000, 1001}[r.next(8)]
				p.send(mail{r.next(9), r.next(9) - 4, string(r.bytes(count))})
			case what < 14:
				p.spoil(i, []int{-1, 0, 1, 6, 39, 999, 1000}[r.next(7)], byte(r.next(256)))
			case what < 16:
				p.look(i)
			case what < 18:
				p.take(i)
			default:
				p.drop(i)
			}
		}
		holds(t, p.net, p.mails)
	}
	if full < 1000 {
		t.Errorf("the rows were at 300 mails %d times alone: they test too little", full)
	}
}

// The same calls are answered the same, in another net too.
func TestSameCallsSameAnswers(t *testing.T) {
	told := func() string {
		r := noise(4711)
		n := New()
		var all []byte
		for range 600 {
			n.Send(Mail{From: r.next(8), To: r.next(8), B: r.bytes(r.next(30))})
			n.Spoil(r.next(20), r.next(30), byte(r.next(256)))
			if r.next(2) == 0 {
				m, _ := n.Take(r.next(20))
				all = append(append(all, byte(m.From), byte(m.To)), m.B...)
			}
		}
		return string(all)
	}
	if a, b := told(), told(); a != b || a == "" {
		t.Error("P0.5: the same calls gave other answers")
	}
}
