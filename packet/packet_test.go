package packet

import (
	"bytes"
	"encoding/binary"
	"hash/crc32"
	"math"
	"strings"
	"testing"

	"quintain/api"
)

// huge: numbers that no packet has, those too that come to one that it may have when they wrap or lose their upper bits.
var huge = []int{
	1<<40 + 2, 1 << 41, 1<<62 - 1, 1 << 62, 1<<62 + 5, 1<<63 - 8, math.MaxInt - 1, math.MaxInt,
	-2, -7, -255, -256, -257, -1000, -1001, -1 << 16, math.MinInt32, math.MinInt32 - 1, -1 << 32, -1<<32 + 5, -1 << 40, -1<<40 - 1, math.MinInt + 1, math.MinInt,
}

// wide: these are more than any field but Id may be.
var wide = append([]int{1002, 1 << 16, 1<<16 + 1, math.MaxInt32, 1 << 31, 1<<32 - 1, 1 << 32, 1<<32 + 1, 1<<32 + 5, 1 << 40}, huge...)

// sealed: a body and the library's sum behind it, which the package does without.
func sealed(body string) string {
	return string(binary.BigEndian.AppendUint32([]byte(body), crc32.ChecksumIEEE([]byte(body))))
}

// told is a number as the library writes it.
func told(n int) string { return string(binary.AppendVarint(nil, int64(n))) }

// inRuns is what the document says of presses in runs, press by press.
func inRuns(b []byte) string {
	s, length, ahead := "", 0, byte(0)
	for i, x := range b {
		length++
		if i+1 < len(b) && b[i+1] == x {
			continue
		}
		s += told(length) + string([]byte{x ^ ahead})
		length, ahead = 0, x
	}
	return s
}

// body is what the chapter says of a packet that may be, without its sum.
func body(p api.Packet) string {
	s := string([]byte{byte(p.Kind), byte(p.From), byte(p.To)}) + told(int(p.Id))
	if p.Kind == 2 {
		return s
	}
	s += told(p.First) + told(p.Ack) + told(p.Frame)
	s = string(binary.BigEndian.AppendUint32([]byte(s), p.Sum))
	return s + told(len(p.Press)) + inRuns(p.Press)
}

func same(a, b api.Packet) bool {
	if !bytes.Equal(a.Press, b.Press) {
		return false
	}
	return a.Kind == b.Kind && a.From == b.From && a.To == b.To && a.Id == b.Id && a.First == b.First && a.Ack == b.Ack && a.Frame == b.Frame && a.Sum == b.Sum
}

// copied is a packet with presses of its own.
func copied(p api.Packet) api.Packet {
	p.Press = bytes.Clone(p.Press)
	return p
}

// thereAndBack: p may be, Encode of it is just want, and Decode gives it.
func thereAndBack(t *testing.T, p api.Packet, want string) {
	t.Helper()
	if !May(p) {
		t.Fatalf("P15.1: %+v may not be", p)
	}
	got := Encode(p)
	if string(got) != want {
		t.Fatalf("P15.1: Encode of %+v: %x, not %x", p, got, want)
	}
	if x, err := Decode(got); !same(x, p) || err != api.OK {
		t.Fatalf("P15.1: Decode of %+v: %+v, %v", p, x, err)
	}
}

// good: as thereAndBack, with the bytes that the chapter names.
func good(t *testing.T, p api.Packet) {
	t.Helper()
	thereAndBack(t, p, sealed(body(p)))
}

// wrong: p may not be, and there are no bytes of it.
func wrong(t *testing.T, p api.Packet) {
	t.Helper()
	if May(p) {
		t.Fatalf("P15.1: %+v may be", p)
	}
	if b := Encode(p); b != nil {
		t.Fatalf("P15.1: Encode of %+v: %x", p, b)
	}
}

// refuses: Decode answers ErrForm and a zero Packet, whose Press is nil.
func refuses(t *testing.T, s string) {
	t.Helper()
	if x, err := Decode([]byte(s)); err != api.ErrForm || x.Press != nil || !same(x, api.Packet{}) {
		t.Fatalf("P15.1: Decode of %x: %+v, %v", s, x, err)
	}
}

// input is an ordinary packet of what was pressed, quit one of the other kind.
func input() api.Packet {
	return api.Packet{Kind: 1, From: 1, To: 2, Id: 70, First: 5, Press: []byte{1, 1, 0, 9}, Ack: 64, Frame: 3, Sum: 0x80000005}
}

func quit() api.Packet { return api.Packet{Kind: 2, From: 3, To: 1, Id: 9} }

// differing are n presses of which no two neighbours are the same.
func differing(n int) []byte {
	b := make([]byte, n)
	for i := range b {
		b[i] = byte(i*37 + 200)
	}
	return b
}

// samples: ordinary packets of both kinds, and such as stand at an edge.
func samples() []api.Packet {
	return []api.Packet{
		input(),
		quit(),
		{Kind: 1, To: 1},
		{Kind: 2, To: 1},
		{Kind: 2, From: 7, To: 6, Id: 1 << 40},
		{Kind: 1, From: 7, Id: 1 << 40, First: 1000, Press: make([]byte, 32), Ack: 1000, Frame: 1000, Sum: math.MaxUint32},
		{Kind: 1, From: 6, To: 7, Id: 1<<40 - 1, First: 999, Press: differing(32), Ack: 998, Frame: 997, Sum: 0x01020304},
		{Kind: 1, From: 4, To: 5, Id: 64, First: 63, Press: []byte{255}, Ack: 62, Frame: 61, Sum: 1},
		{Kind: 1, From: 5, To: 4, Id: 63, First: 1, Press: bytes.Repeat([]byte{'x'}, 31), Ack: 2, Frame: 0, Sum: 1 << 24},
	}
}

// noise gives numbers without a pattern that is short, always the same of one seed.
type noise uint32

func (n *noise) next(below int) int {
	*n = 1664525**n + 1013904223
	return int(uint64(*n^*n>>13) * uint64(below) >> 32)
}

// packet is one that may be.
func (n *noise) packet() api.Packet {
	p := api.Packet{Kind: 1 + n.next(2), From: n.next(8), Id: int64(n.next(1<<20))<<n.next(21) + int64(n.next(2))}
	p.To = (p.From + 1 + n.next(7)) % 8
	if p.Kind == 2 {
		return p
	}
	p.First, p.Ack, p.Frame, p.Sum = n.next(1001), n.next(1001), n.next(1001)/(1+n.next(20)), uint32(*n)
	for range n.next(33) {
		p.Press = append(p.Press, byte(n.next(2+n.next(40))*(1+n.next(2)*90)))
	}
	return p
}

func TestKnownBytes(t *testing.T) {
	for _, x := range []struct {
		p    api.Packet
		body string
	}{
		{api.Packet{Kind: 2, To: 1}, "\x02\x00\x01\x00"},
		{api.Packet{Kind: 2, From: 3, To: 1, Id: 9}, "\x02\x03\x01\x12"},
		{api.Packet{Kind: 2, From: 3, To: 1, Id: 64}, "\x02\x03\x01\x80\x01"},
		{api.Packet{Kind: 2, From: 7, To: 0, Id: 1 << 40}, "\x02\x07\x00\x80\x80\x80\x80\x80\x40"},
		{api.Packet{Kind: 1, To: 1}, "\x01\x00\x01\x00\x00\x00\x00\x00\x00\x00\x00\x00"},
		{api.Packet{Kind: 1, From: 1, To: 2, First: 5, Press: []byte{1, 1, 0}, Ack: 3, Frame: 2, Sum: 0x01020304}, "\x01\x01\x02\x00\x0a\x06\x04\x01\x02\x03\x04\x06\x04\x01\x02\x01"},
		{api.Packet{Kind: 1, From: 6, To: 5, Id: 63, First: 64, Press: []byte("aab"), Ack: 65, Frame: 1000, Sum: math.MaxUint32}, "\x01\x06\x05\x7e\x80\x01\x82\x01\xd0\x0f\xff\xff\xff\xff\x06\x04a\x02\x03"},
		{api.Packet{Kind: 1, From: 2, To: 7, Id: 1, First: 1000, Press: make([]byte, 32), Sum: 0x80000000}, "\x01\x02\x07\x02\xd0\x0f\x00\x00\x80\x00\x00\x00\x40\x40\x00"},
	} {
		thereAndBack(t, x.p, sealed(x.body))
	}
	// The whole is written out, its sum too.
	thereAndBack(t, api.Packet{Kind: 2, To: 1}, "\x02\x00\x01\x00\x92\x56\x26\xd6")
}

func TestOrdinaryPackets(t *testing.T) {
	for _, p := range samples() {
		good(t, p)
	}
	for _, p := range []api.Packet{input(), quit()} {
		p.Press = append([]byte{}, p.Press...)
		good(t, p)
	}
	for seed := range 4000 {
		n := noise(seed)
		good(t, n.packet())
	}
}

func TestKinds(t *testing.T) {
	for _, p := range []api.Packet{{To: 1}, {From: 4, To: 5, Id: 7}} {
		for _, kind := range []int{1, 2} {
			p.Kind = kind
			good(t, p)
		}
		for _, kind := range append([]int{0, 3, 4, 5, 127, 128, 255, 256, 257, 258, -1, -254}, wide...) {
			p.Kind = kind
			wrong(t, p)
		}
	}
	for _, kind := range []int{0, 3, -1, 257, 1<<32 + 1} {
		p := input()
		p.Kind = kind
		wrong(t, p)
	}
}

func TestPlayers(t *testing.T) {
	for _, p := range []api.Packet{input(), quit()} {
		for from := -2; from <= 9; from++ {
			for to := -2; to <= 9; to++ {
				p.From, p.To = from, to
				if from >= 0 && from <= 7 && to >= 0 && to <= 7 && from != to {
					good(t, p)
				} else {
					wrong(t, p)
				}
			}
		}
		for _, n := range append([]int{8, 16, 255, 256, 257, 1 << 8, 1000}, wide...) {
			p.From, p.To = n, 1
			wrong(t, p)
			p.From, p.To = 1, n
			wrong(t, p)
			p.From, p.To = n, n
			wrong(t, p)
		}
	}
}

func TestIds(t *testing.T) {
	for _, p := range []api.Packet{input(), quit()} {
		for _, id := range []int64{0, 1, 63, 64, 8191, 8192, math.MaxInt32, 1 << 31, 1 << 32, 1<<32 + 1, 1<<39 - 1, 1 << 39, 1<<40 - 1, 1 << 40} {
			p.Id = id
			good(t, p)
		}
		for _, id := range append([]int{-1, 1<<40 + 1}, huge...) {
			p.Id = int64(id)
			wrong(t, p)
		}
	}
}

// setters: the three numbers that are frames, or how many.
func setters() map[string]func(p *api.Packet, n int) {
	return map[string]func(p *api.Packet, n int){
		"First": func(p *api.Packet, n int) { p.First = n },
		"Ack":   func(p *api.Packet, n int) { p.Ack = n },
		"Frame": func(p *api.Packet, n int) { p.Frame = n },
	}
}

func TestFrames(t *testing.T) {
	for _, set := range setters() {
		p := input()
		for n := range 1001 {
			set(&p, n)
			good(t, p)
		}
		for _, n := range append([]int{-1, 1001}, wide...) {
			set(&p, n)
			wrong(t, p)
		}
	}
	// The end of the presses is not asked.
	good(t, api.Packet{Kind: 1, To: 1, First: 1000, Press: differing(32)})
}

func TestSums(t *testing.T) {
	p := input()
	for bit := range 32 {
		for _, n := range []uint32{1 << bit, 1<<bit - 1, ^(1 << bit)} {
			p.Sum = n
			good(t, p)
		}
	}
}

func TestPresses(t *testing.T) {
	p := input()
	for n := range 33 {
		for _, press := range [][]byte{make([]byte, n), bytes.Repeat([]byte{200}, n), differing(n), append(make([]byte, n/2), differing(n-n/2)...)} {
			p.Press = press
			good(t, p)
		}
	}
	for _, n := range []int{33, 34, 63, 64, 65, 128, 255, 256, 257, 1000, 1 << 16} {
		for _, press := range [][]byte{make([]byte, n), bytes.Repeat([]byte{200}, n), differing(n)} {
			p.Press = press
			wrong(t, p)
		}
	}
	for x := range 256 {
		p.Press = []byte{byte(x)}
		good(t, p)
		p.Press = []byte{byte(x), byte(x), 7}
		good(t, p)
	}
	p.Press = nil
	good(t, p)
}

func TestQuitHasNothingElse(t *testing.T) {
	for _, set := range setters() {
		for _, n := range append([]int{-1, 1, 64, 1000, 1001, 256}, wide...) {
			p := quit()
			set(&p, n)
			wrong(t, p)
		}
	}
	for _, sum := range []uint32{1, 256, 1 << 31, math.MaxUint32} {
		p := quit()
		p.Sum = sum
		wrong(t, p)
	}
	for _, n := range []int{1, 2, 31, 32, 33, 256} {
		p := quit()
		p.Press = make([]byte, n)
		wrong(t, p)
		p.Press = differing(n)
		wrong(t, p)
	}
	p := quit()
	p.Press = make([]byte, 0, 9)
	good(t, p)
}

func TestZeroPacket(t *testing.T) {
	wrong(t, api.Packet{})
	wrong(t, api.Packet{Kind: 1})
	wrong(t, api.Packet{Kind: 2})
}

func TestDecodeOfNothing(t *testing.T) {
	for _, b := range [][]byte{nil, {}, make([]byte, 0, 64)} {
		if x, err := Decode(b); err != api.ErrForm || x.Press != nil || !same(x, api.Packet{}) {
			t.Errorf("P15.1: Decode of nothing: %+v, %v", x, err)
		}
	}
	// Nothing but a sum, of nothing (which is 0) and of something.
	for _, s := range []string{"\x00\x00\x00\x00", sealed(""), "\x92\x56\x26\xd6", "\xff\xff\xff\xff", "\x00", "\x00\x00", "\x00\x00\x00", "\x00\x00\x00\x00\x00"} {
		refuses(t, s)
	}
}

func TestDecodeOfCutPackets(t *testing.T) {
	for _, p := range samples() {
		b := string(Encode(p))
		for n := range b {
			refuses(t, b[:n])
			refuses(t, b[n+1:])
		}
	}
}

func TestDecodeOfLongerPackets(t *testing.T) {
	for _, p := range samples() {
		b := string(Encode(p))
		for x := range 256 {
			refuses(t, b+string([]byte{byte(x)}))
			refuses(t, string([]byte{byte(x)})+b)
		}
		refuses(t, b+b)
		refuses(t, b+strings.Repeat("\x00", 4))
		refuses(t, b+strings.Repeat("\x00", 1<<20))
		// A sum of what has a sum already.
		refuses(t, sealed(b))
	}
}

// Each one byte, as each other one.
func TestDecodeOfChangedPackets(t *testing.T) {
	for _, p := range samples() {
		b := Encode(p)
		for n := range b {
			for x := 1; x < 256; x++ {
				b[n] ^= byte(x)
				refuses(t, string(b))
				b[n] ^= byte(x)
			}
		}
	}
}

// The sum counts, whole and in its order.
func TestDecodeOfOtherSums(t *testing.T) {
	for _, p := range samples() {
		s := body(p)
		sum := crc32.ChecksumIEEE([]byte(s))
		refuses(t, s)
		refuses(t, string(binary.LittleEndian.AppendUint32([]byte(s), sum)))
		refuses(t, string(binary.BigEndian.AppendUint32([]byte(s), ^sum)))
		refuses(t, string(binary.BigEndian.AppendUint32([]byte(s), sum+1)))
		refuses(t, string(binary.BigEndian.AppendUint32([]byte(s), 0)))
		refuses(t, string(binary.BigEndian.AppendUint32([]byte(s), crc32.Checksum([]byte(s), crc32.MakeTable(crc32.Castagnoli)))))
	}
	refuses(t, sealed(body(quit()))[:4]+sealed(body(input()))[len(body(input())):])
}

// What no packet has, with a sum that is right.
func TestDecodeOfNoPacket(t *testing.T) {
	const rest = "\x0a\x06\x04\x01\x02\x03\x04\x06\x04\x01\x02\x01" // First to the presses
	for _, s := range []string{
		// A Kind, From or To that may not be.
		"\x00\x03\x01\x00", "\x03\x03\x01\x00", "\x04\x03\x01\x00", "\xff\x03\x01\x00", "\x81\x03\x01\x00", "\x82\x03\x01\x00",
		"\x00\x01\x02\x00" + rest, "\x03\x01\x02\x00" + rest, "\x81\x01\x02\x00" + rest,
		"\x02\x08\x01\x00", "\x02\xff\x01\x00", "\x02\x01\x08\x00", "\x02\x01\xff\x00", "\x02\x03\x03\x00", "\x02\x00\x00\x00", "\x02\x08\x08\x00", "\x02\x80\x01\x00",
		"\x01\x08\x01\x00" + rest, "\x01\x01\x08\x00" + rest, "\x01\x01\x01\x00" + rest, "\x01\x01\x81\x00" + rest,
		// An Id that may not be, or none, or one that is not written so.
		"", "\x02", "\x02\x03", "\x02\x03\x01", "\x02\x03\x01\x80", "\x02\x03\x01\xff\xff", "\x02\x03\x01\x01", "\x02\x03\x01\x03", "\x02\x03\x01\x80\x00", "\x02\x03\x01\x82\x00", "\x02\x03\x01\x92\x80\x00",
		"\x02\x03\x01" + told(1<<40+1), "\x02\x03\x01" + told(1 << 40)[:5] + "\xc0\x00", "\x02\x03\x01" + strings.Repeat("\x80", 9) + "\x02", "\x02\x03\x01" + strings.Repeat("\xff", 9) + "\x01", "\x02\x03\x01" + strings.Repeat("\x80", 100) + "\x01",
		"\x01\x01\x02" + rest, "\x01\x01\x02\x01" + rest, "\x01\x01\x02\x80\x00" + rest, "\x01\x01\x02" + told(1<<40+1) + rest,
		// A PQuit with bytes behind its Id.
		"\x02\x03\x01\x00\x00", "\x02\x03\x01\x12\x00", "\x02\x03\x01\x80\x01\x00", "\x02\x01\x02\x00" + rest, "\x02\x00\x01\x00\x00\x00\x00\x00\x00\x00\x00\x00",
		// A PInput of which there is just what a PQuit has.
		"\x01\x03\x01\x00", "\x01\x00\x01\x00\x00", "\x01\x00\x01\x12",
	} {
		refuses(t, sealed(s))
	}
	for _, id := range huge {
		refuses(t, sealed("\x02\x03\x01"+told(id)))
		refuses(t, sealed("\x01\x01\x02"+told(id)+rest))
	}
}

// Numbers behind the Id that may not be, or are not written so, each in each place.
func TestDecodeOfWrongNumbers(t *testing.T) {
	numbers := []string{"", "\x01", "\x03", told(-1000), told(1001), told(1002), told(-1001), "\x80", "\x80\x00", "\x84\x00", "\x84\x80\x00", told(1000)[:1] + "\x8f\x00", strings.Repeat("\x80", 9) + "\x02", strings.Repeat("\xff", 10)}
	for _, n := range wide {
		numbers = append(numbers, told(n))
	}
	for _, s := range numbers {
		for place := range 3 {
			parts := []string{"\x0a", "\x06", "\x04"}
			parts[place] = s
			// No presses behind it: what is missing is not taken from elsewhere.
			refuses(t, sealed("\x01\x01\x02\x00"+strings.Join(parts, "")+"\x01\x02\x03\x04\x00"))
			refuses(t, sealed("\x01\x01\x02\x00"+strings.Join(parts, "")+"\xff\xff\xff\xff\x06\x04\x01\x02\x01"))
		}
	}
}

// Counts that are not the presses', and runs that are none.
func TestDecodeOfWrongPresses(t *testing.T) {
	const ahead = "\x01\x01\x02\x00\x0a\x06\x04\x01\x02\x03\x04"
	for _, s := range []string{
		// A count of presses that is not theirs.
		"", "\x02", "\x08", "\x40", "\x42", "\x00\x02a", "\x02\x04a", "\x04\x02a", "\x06\x04\x01", "\x08\x04\x01\x02\x01", "\x04\x04\x01\x02\x01", "\x05\x04\x01\x02\x01", "\x40\x3ea", "\x3e\x40a",
		// One below 0, and one that is not written so.
		"\x01", "\x03", "\x01\x02a", "\x80", "\x80\x00", "\x82\x00\x02a", "\x86\x00\x04\x01\x02\x01", "\xc0\x00\x40\x00", strings.Repeat("\xff", 9) + "\x01",
		// Runs that runs.Encode does not make.
		"\x02a", "\x02\x02", "\x00\x00", "\x00\x00a", "\x02\x00a", "\x02\x01a", "\x02\x80", "\x02\x82\x00a", "\x04\x02a\x02\x00", "\x04\x04a\x02\x00", "\x04\x02a\x02", "\x02\x02a\x02", "\x02\x02a\x00", "\x02\x02a\x00b", "\x02\x02a\x01b", "\x02\x02a\x80",
		"\x04\x02\x00\x02\x00", "\x06\x02a\x04\x00", "\x06\x06", "\x06\x04a\x02",
		// More than 32 presses.
		"\x42\x42\x00", "\x42\x42a", "\x42\x40a\x02\x01", "\x44\x42a\x02\x01", "\x40\x42a", "\x40\x40a\x02\x01", told(64) + told(64) + "a", told(256) + told(256) + "a", told(1<<40) + told(1<<40) + "a", told(math.MaxInt) + told(math.MaxInt) + "a",
		told(1<<32+1) + "\x02a", told(257) + "\x02a", "\x02" + told(1<<32+1) + "a", "\x02" + told(257) + "a", "\x02" + told(math.MaxInt) + "a", told(1<<32) + "", told(256),
		// Bytes behind the presses.
		"\x02\x02a\x02b", "\x06\x04\x01\x02\x01\x00", "\x00\x00\x00\x00", "\x40\x40a\x80", "\x40\x40a\x02",
	} {
		refuses(t, sealed(ahead+s))
	}
	refuses(t, sealed(ahead+told(33)+inRuns(differing(33))))
	refuses(t, sealed(ahead+told(32)+inRuns(differing(33))))
	refuses(t, sealed(ahead+told(33)+inRuns(differing(32))))
	refuses(t, sealed(ahead+"\x80\x80\x01"+inRuns(make([]byte, 1<<13))))
	for n := range 70 {
		for said := range 70 {
			s := sealed(ahead + told(said) + inRuns(make([]byte, n)))
			if n == said && n <= 32 {
				thereAndBack(t, api.Packet{Kind: 1, From: 1, To: 2, First: 5, Press: make([]byte, n), Ack: 3, Frame: 2, Sum: 0x01020304}, s)
			} else {
				refuses(t, s)
			}
		}
	}
}

// takes: whatever Decode takes, Encode makes; all else is ErrForm.
func takes(t *testing.T, s string) bool {
	t.Helper()
	x, err := Decode([]byte(s))
	if err != api.OK {
		refuses(t, s)
		return false
	}
	if !May(x) || string(Encode(x)) != s || sealed(body(x)) != s {
		t.Fatalf("P15.1: Decode took %x as %+v, of which Encode makes %x", s, x, Encode(x))
	}
	return true
}

// Bodies cut, longer, and with each byte another one, with a sum that is right.
func TestSealedAnew(t *testing.T) {
	for _, p := range samples() {
		s := body(p)
		for n := range s {
			if takes(t, sealed(s[:n])) {
				t.Fatalf("P15.1: Decode took the first %d bytes of %x", n, s)
			}
			for x := range 256 {
				c := string([]byte{byte(x)})
				takes(t, sealed(s[:n]+c+s[n+1:]))
				takes(t, sealed(s[:n]+c+s[n:]))
			}
			takes(t, sealed(s[:n]+s[n+1:]))
		}
		for x := range 256 {
			if takes(t, sealed(s+string([]byte{byte(x)}))) {
				t.Fatalf("P15.1: Decode took %x with %x behind it", s, x)
			}
		}
	}
}

// All short bodies of some signs: those of quits are found, and no others.
func TestAllShortBodies(t *testing.T) {
	const signs = "\x00\x01\x02\x03\x07\x08\x80\xff"
	var grow func(s string, n int)
	taken := 0
	grow = func(s string, n int) {
		if takes(t, sealed(s)) {
			taken++
		}
		for i := 0; n > 0 && i < len(signs); i++ {
			grow(s+signs[i:i+1], n-1)
		}
	}
	grow("", 5)
	// From and To: 5 by 4; Id of one byte: 00, 02, 08; of two: 80, and 01, 02, 03, 07 or 08 (behind ff it is below 0).
	if want := 20 * (3 + 5); taken != want {
		t.Errorf("P15.1: Decode took %d short bodies, not %d", taken, want)
	}
}

func TestNoisyBytes(t *testing.T) {
	for seed := range 4000 {
		n := noise(seed)
		b := []byte(body(n.packet()))
		for range 1 + n.next(3) {
			b[n.next(len(b))] = byte(n.next(256) >> n.next(8))
		}
		takes(t, sealed(string(b)))
		takes(t, sealed(string(b[:n.next(len(b)+1)])))
		takes(t, string(b))
	}
}

// P0.3: bytes that Encode handed back are the caller's, spare room too.
func TestBytesAreTheCallers(t *testing.T) {
	for _, p := range samples() {
		first, second := Encode(p), Encode(p)
		kept := bytes.Clone(second)
		scribble(first)
		_ = append(first, "zzzz"...)
		if !bytes.Equal(second, kept) {
			t.Errorf("P0.3: two answers of Encode of %+v share memory", p)
		}
		if third := Encode(p); !bytes.Equal(third, kept) {
			t.Errorf("P0.5: Encode of %+v: %x, not %x", p, third, kept)
		}
	}
}

// P0.3: presses that Decode handed back are the caller's, spare room too.
func TestPressesAreTheCallers(t *testing.T) {
	for _, p := range samples() {
		b := Encode(p)
		first, _ := Decode(b)
		second, _ := Decode(b)
		scribble(first.Press)
		_ = append(first.Press, "zzzz"...)
		if !same(second, p) {
			t.Errorf("P0.3: two answers of Decode of %x share memory", b)
		}
		if third, err := Decode(b); !same(third, p) || err != api.OK {
			t.Errorf("P0.5: Decode of %x: %+v, %v", b, third, err)
		}
	}
}

// P0.3: presses that are handed in are neither changed nor kept, their spare room neither.
func TestHandedInPresses(t *testing.T) {
	for _, p := range samples() {
		for _, room := range []int{0, 1, 64} {
			want := Encode(p)
			whole := append(bytes.Clone(p.Press), bytes.Repeat([]byte{'s'}, room)...)
			all := bytes.Clone(whole)
			q := p
			q.Press = whole[:len(p.Press)]
			got := Encode(q)
			if !May(q) || !bytes.Equal(whole, all) {
				t.Errorf("P0.3: %+v: the presses that were handed in are %x by now", p, whole)
			}
			scribble(whole)
			if !bytes.Equal(got, want) {
				t.Errorf("P0.3: Encode of %+v shares what it was handed", p)
			}
			scribble(got)
			if !bytes.Equal(Encode(p), want) {
				t.Errorf("P0.5: Encode of %+v: %x, not %x", p, Encode(p), want)
			}
		}
	}
}

// P0.3: bytes that are handed in are neither changed nor kept, their spare room neither.
func TestHandedInBytes(t *testing.T) {
	for _, p := range samples() {
		for _, room := range []int{0, 1, 64} {
			b := Encode(p)
			whole := append(bytes.Clone(b), bytes.Repeat([]byte{'s'}, room)...)
			all := bytes.Clone(whole)
			got, err := Decode(whole[:len(b)])
			if err != api.OK || !bytes.Equal(whole, all) {
				t.Errorf("P0.3: the bytes that were handed in are %x by now, not %x; %v", whole, all, err)
			}
			scribble(whole)
			if !same(got, p) {
				t.Errorf("P0.3: Decode of %x shares what it was handed", b)
			}
		}
		b := Encode(p)
		b[len(b)/2] ^= 1
		spoiled := bytes.Clone(b)
		if _, err := Decode(b); err != api.ErrForm || !bytes.Equal(b, spoiled) {
			t.Errorf("P0.3: the bytes that were refused are %x by now, not %x; %v", b, spoiled, err)
		}
	}
}

// scribble writes over a list and over its spare room.
func scribble(b []byte) {
	b = b[:cap(b)]
	for i := range b {
		b[i] ^= 0x5a
	}
}

// P0.5: calls know nothing of each other.
func TestCallsBesideEachOther(t *testing.T) {
	var packets []api.Packet
	var encoded [][]byte
	for seed := range 300 {
		n := noise(seed)
		packets = append(packets, n.packet())
		encoded = append(encoded, Encode(packets[seed]))
		refuses(t, sealed("\x01\x01\x02\x00\x0a\x06\x04\x01\x02\x03\x04\x08\x04\x01\x02\x01"))
		wrong(t, api.Packet{Kind: 1, To: 1, Press: differing(33)})
	}
	for i, b := range encoded {
		if x, err := Decode(b); !same(x, packets[i]) || err != api.OK || string(b) != sealed(body(packets[i])) {
			t.Errorf("P0.5: packet %d: %x, %+v, %v", i, b, x, err)
		}
	}
}
