package code

import (
	"bytes"
	"encoding/binary"
	"math"
	"reflect"
	"slices"
	"strings"
	"testing"

	"quintain/api"
)

const (
	low  = math.MinInt32
	high = math.MaxInt32
)

// written: a program's bytes by the library's writing of numbers, whether the program may be or not.
func written(title string, many int, numbers ...int) []byte {
	b := binary.AppendVarint(nil, int64(len(title)))
	b = append(b, title...)
	b = binary.AppendVarint(b, int64(many))
	for _, n := range numbers {
		b = binary.AppendVarint(b, int64(n))
	}
	return b
}

func flat(ops []api.Op) []int {
	var numbers []int
	for _, op := range ops {
		numbers = append(numbers, op.Code, op.A, op.B, op.C)
	}
	return numbers
}

// manyOps have numbers of one byte up to five, no two of an operation the same.
func manyOps(n int) []api.Op {
	var ops []api.Op
	for i := range n {
		ops = append(ops, api.Op{Code: i % 16, A: -i - 100, B: i*i*i*8000 + 40000, C: low + i})
	}
	return ops
}

func somePrograms() []api.Prog {
	one := []api.Op{{Code: 1, A: 2, B: 3, C: 4}}
	progs := []api.Prog{
		{Title: "a", Ops: one},
		{Title: "a", Ops: []api.Op{{}}},
		{Title: "a", Ops: []api.Op{{}, {}}},
		{Title: "a", Ops: []api.Op{{Code: low, A: high, B: high, C: low}, {Code: high, A: low, B: low, C: high}}},
		{Title: "a", Ops: []api.Op{{Code: -1, A: 63, B: -64, C: 64}, {Code: 16, A: 99, B: -65, C: 8192}}},
		{Title: "a", Ops: manyOps(63)},
		{Title: "a", Ops: manyOps(64)},
	}
	for _, title := range []string{
		" ", " a b ", "#", "title", "é€😀", "\uFFFD", "\u0080\u009f", strings.Repeat("x", 20), strings.Repeat("😀", 20),
	} {
		progs = append(progs, api.Prog{Title: title, Ops: one})
	}
	return progs
}

func TestKnownBytes(t *testing.T) {
	for want, p := range map[string]api.Prog{
		"\x02a\x02\x00\x00\x00\x00":                 {Title: "a", Ops: []api.Op{{}}},
		"\x04go\x02\x02\x04\x06\x08":                {Title: "go", Ops: []api.Op{{Code: 1, A: 2, B: 3, C: 4}}},
		"\x04é\x04\x01\x03\x05\x07\x00\x02\x00\x01": {Title: "é", Ops: []api.Op{{Code: -1, A: -2, B: -3, C: -4}, {A: 1, C: -1}}},
		"\x02a\x02\xff\xff\xff\xff\x0f\xfe\xff\xff\xff\x0f\x80\x01\x81\x01": {
			Title: "a", Ops: []api.Op{{Code: low, A: high, B: 64, C: -65}},
		},
	} {
		if got := Encode(p); string(got) != want {
			t.Errorf("P5.1: Encode of %v: %x, not %x", p, got, want)
		}
		if got, err := Decode([]byte(want)); !reflect.DeepEqual(got, p) || err != api.OK {
			t.Errorf("P5.1: Decode of %x: %v, %v", want, got, err)
		}
	}
}

func TestEncodeAndDecode(t *testing.T) {
	for _, p := range somePrograms() {
		b := Encode(p)
		if !bytes.Equal(b, written(p.Title, len(p.Ops), flat(p.Ops)...)) {
			t.Errorf("P5.1: Encode of %v: %x", p, b)
		}
		got, err := Decode(b)
		if !reflect.DeepEqual(got, p) || err != api.OK || !Eq(got, p) {
			t.Errorf("P5.1: Decode of %x: %v, %v", b, got, err)
		}
	}
}

// badPrograms have one fault each.
func badPrograms() []api.Prog {
	one := []api.Op{{Code: 1, A: 2, B: 3, C: 4}}
	progs := []api.Prog{
		{},
		{Title: "a"},
		{Title: "a", Ops: []api.Op{}},
		{Title: "a", Ops: manyOps(65)},
		{Title: "a", Ops: make([]api.Op, 128)},
		{Title: "a", Ops: make([]api.Op, 1<<16)},
	}
	for _, title := range []string{
		"", "\x00", "a\n", "\x1f", "\x7f", "a\tb", "\xff", "a\xc3", "\xed\xa0\x80",
		strings.Repeat("x", 21), strings.Repeat("😀", 21), strings.Repeat("x", 1<<16), strings.Repeat("x", 1<<16+1),
	} {
		progs = append(progs, api.Prog{Title: title, Ops: one})
	}
	for _, n := range []int{low - 1, high + 1, 1 << 32, -1 << 32, 1<<32 + 1, math.MaxInt, math.MinInt} {
		for _, op := range []api.Op{{Code: n}, {A: n}, {B: n}, {C: n}} {
			progs = append(progs,
				api.Prog{Title: "a", Ops: []api.Op{op}},
				api.Prog{Title: "a", Ops: []api.Op{op, {}}},
				api.Prog{Title: "a", Ops: append(make([]api.Op, 63), op)})
		}
	}
	return progs
}

func TestBadPrograms(t *testing.T) {
	for _, p := range badPrograms() {
		if got := Encode(p); got != nil {
			t.Errorf("P5.1: Encode of %.20q with %d operations: %.20x", p.Title, len(p.Ops), got)
		}
		refused(t, written(p.Title, len(p.Ops), flat(p.Ops)...))
	}
}

func refused(t *testing.T, b []byte) {
	t.Helper()
	if p, err := Decode(b); p.Title != "" || p.Ops != nil || err != api.ErrForm {
		t.Errorf("P5.1: Decode of %.40x: %.40v, %v", b, p, err)
	}
}

func TestDecodeOfCutAndLongBytes(t *testing.T) {
	for _, p := range somePrograms() {
		b := Encode(p)
		for cut := range b {
			refused(t, b[:cut])
		}
		for _, behind := range []string{"\x00", "\x02", "\x80", "\xff\xff", "\x00\x00\x00\x00", string(b)} {
			refused(t, append(bytes.Clone(b), behind...))
		}
	}
	refused(t, nil)
	refused(t, []byte{})
	// What lies in a list's spare room is no part of it.
	b := Encode(somePrograms()[0])
	refused(t, b[:len(b)-1:len(b)])
}

func TestDecodeOfWrongBytes(t *testing.T) {
	nine := strings.Repeat("\xff", 9)
	for name, s := range map[string]string{
		"no title":                       "\x00\x02\x00\x00\x00\x00",
		"a title's length below 0":       "\x01a\x02\x00\x00\x00\x00",
		"a title's length of two bytes":  "\x82\x00a\x02\x00\x00\x00\x00",
		"how many, of two bytes":         "\x02a\x82\x00\x00\x00\x00\x00",
		"a Code of two bytes":            "\x02a\x02\x80\x00\x00\x00\x00",
		"a C of two bytes":               "\x02a\x02\x00\x00\x00\x80\x00",
		"none":                           "\x02a\x00",
		"none, and one":                  "\x02a\x00\x00\x00\x00\x00",
		"fewer than none":                "\x02a\x01",
		"fewer than none, and one":       "\x02a\x01\x00\x00\x00\x00",
		"one of two":                     "\x02a\x04\x00\x00\x00\x00",
		"two of one":                     "\x02a\x02\x00\x00\x00\x00\x00\x00\x00\x00",
		"three numbers":                  "\x02a\x02\x00\x00\x00",
		"five numbers":                   "\x02a\x02\x00\x00\x00\x00\x00",
		"a number beyond an int64":       "\x02a\x02" + nine + "\x02\x00\x00\x00",
		"the lowest number of how many":  "\x02a" + nine + "\x01\x00\x00\x00\x00",
		"the highest number of how many": "\x02a\xfe" + nine[1:] + "\x01\x00\x00\x00\x00",
		"the lowest length of a title":   nine + "\x01a\x02\x00\x00\x00\x00",
		"the highest length of a title":  "\xfe" + nine[1:] + "\x01a\x02\x00\x00\x00\x00",
	} {
		t.Run(name, func(t *testing.T) { refused(t, []byte(s)) })
	}
	refused(t, written("a", 65, make([]int, 4*65)...))
	refused(t, written("a", 65, make([]int, 4*64)...))
	refused(t, written("a", 64, make([]int, 4*65)...))
	refused(t, written("a", 1<<32+1, 0, 0, 0, 0))
	refused(t, written("a", math.MinInt, 0, 0, 0, 0))
	refused(t, bytes.Repeat([]byte{'\x80'}, 1<<16))
	refused(t, make([]byte, 1<<16))
}

// Whatever Decode takes is just what Encode writes of it.
func TestDecodeOfSpoiltBytes(t *testing.T) {
	for _, p := range somePrograms()[:5] {
		b := Encode(p)
		for i := range b {
			for by := 1; by < 256; by++ {
				c := bytes.Clone(b)
				c[i] ^= byte(by)
				got, err := Decode(c)
				switch {
				case err == api.OK && !bytes.Equal(Encode(got), c):
					t.Fatalf("P5.1: Decode of %x: %v, whose bytes are %x", c, got, Encode(got))
				case err == api.OK && Eq(got, p):
					t.Fatalf("P5.1: Decode of %x and of %x: the same", b, c)
				case err != api.OK:
					refused(t, c)
				}
			}
		}
	}
}

func TestEq(t *testing.T) {
	p := api.Prog{Title: "a", Ops: []api.Op{{Code: 1, A: 2, B: 3, C: 4}, {Code: 5, A: 6, B: 7, C: 8}}}
	if !Eq(p, api.Prog{Title: "a", Ops: slices.Clone(p.Ops)}) || !Eq(p, p) {
		t.Error("P5.1: Eq: false of the same")
	}
	for _, q := range []api.Prog{
		{},
		{Title: "a"},
		{Title: "b", Ops: p.Ops},
		{Title: "", Ops: p.Ops},
		{Title: "A", Ops: p.Ops},
		{Title: "a ", Ops: p.Ops},
		{Title: "a", Ops: p.Ops[:1]},
		{Title: "a", Ops: p.Ops[1:]},
		{Title: "a", Ops: []api.Op{p.Ops[1], p.Ops[0]}},
		{Title: "a", Ops: append(slices.Clone(p.Ops), api.Op{})},
		{Title: "a", Ops: []api.Op{p.Ops[0], {Code: 0, A: 6, B: 7, C: 8}}},
		{Title: "a", Ops: []api.Op{p.Ops[0], {Code: 5, A: 0, B: 7, C: 8}}},
		{Title: "a", Ops: []api.Op{p.Ops[0], {Code: 5, A: 6, B: 0, C: 8}}},
		{Title: "a", Ops: []api.Op{p.Ops[0], {Code: 5, A: 6, B: 7, C: 0}}},
		{Title: "a", Ops: []api.Op{p.Ops[0], {Code: 5 + 1<<32, A: 6, B: 7, C: 8}}},
	} {
		if Eq(p, q) || Eq(q, p) {
			t.Errorf("P5.1: Eq: true of %v and %v", p, q)
		}
	}
}

// Eq asks not whether a program may be written.
func TestEqOfBadPrograms(t *testing.T) {
	bad := badPrograms()
	for i, p := range bad {
		same := api.Prog{Title: strings.Clone(p.Title), Ops: slices.Clone(p.Ops)}
		if !Eq(p, same) {
			t.Errorf("P5.1: Eq of bad program %d and itself: false", i)
		}
	}
	for _, x := range []struct{ a, b string }{{"\xff", "\xfe"}, {"\xff", "\uFFFD"}, {"", "\x00"}} {
		if Eq(api.Prog{Title: x.a}, api.Prog{Title: x.b}) {
			t.Errorf("P5.1: Eq of %q and %q: true", x.a, x.b)
		}
	}
	if !Eq(api.Prog{Title: "a"}, api.Prog{Title: "a", Ops: []api.Op{}}) || !Eq(api.Prog{Ops: []api.Op{}}, api.Prog{}) {
		t.Error("P0.4: Eq of none and an empty list: false")
	}
}

func TestAnswersAreNew(t *testing.T) {
	p := api.Prog{Title: "go", Ops: manyOps(3)}
	first, second := Encode(p), Encode(p)
	want := written("go", 3, flat(p.Ops)...)
	clear(first[:cap(first)])
	if !bytes.Equal(second, want) || !bytes.Equal(Encode(p), want) {
		t.Errorf("P0.3: Encode: %x, not %x", second, want)
	}
	one, _ := Decode(second)
	two, _ := Decode(second)
	clear(one.Ops[:cap(one.Ops)])
	if three, _ := Decode(second); !Eq(two, p) || !Eq(three, p) {
		t.Errorf("P0.3: Decode: %v, not %v", two, p)
	}
	clear(second)
	if !Eq(two, p) {
		t.Errorf("P0.3: Decode's answer shares its list's memory: %v", two)
	}
}

func TestArgumentsStay(t *testing.T) {
	ops := manyOps(5)
	p := api.Prog{Title: "go", Ops: ops[1:3]}
	b := Encode(p)
	Eq(p, p)
	if !slices.Equal(ops, manyOps(5)) {
		t.Errorf("P0.3: the operations were written into: %v", ops)
	}
	ops[1].Code++
	if q, _ := Decode(b); Eq(p, q) || bytes.Equal(Encode(p), b) {
		t.Error("P0.3: old operations were read")
	}
	all := append(bytes.Clone(b), "spare"...)
	Decode(all[:len(b)])
	if string(all) != string(b)+"spare" {
		t.Errorf("P0.3: a list was written into: %x", all)
	}
}
