package num

import (
	"bytes"
	"encoding/binary"
	"math"
	"strings"
	"testing"

	"quintain/api"
)

// edges: the numbers beside each power of two, of both signs, and those at the ends.
func edges() []int64 {
	ns := []int64{0, math.MaxInt64, math.MaxInt64 - 1, math.MinInt64, math.MinInt64 + 1}
	for k := range 63 {
		p := int64(1) << k
		ns = append(ns, p-1, p, p+1, -p-1, -p, -p+1)
	}
	return ns
}

// eachList asks f for all lists of up to n bytes of signs behind the bytes of ahead.
func eachList(ahead, signs string, n int, f func(b []byte)) {
	var grow func(b []byte, n int)
	grow = func(b []byte, n int) {
		f(b)
		if n == 0 {
			return
		}
		for i := range len(signs) {
			grow(append(bytes.Clone(b), signs[i]), n-1)
		}
	}
	grow([]byte(ahead), n)
}

func TestPut(t *testing.T) {
	for n, want := range map[int64]string{
		0:                 "\x00",
		1:                 "\x02",
		-1:                "\x01",
		2:                 "\x04",
		-2:                "\x03",
		63:                "\x7e",
		-64:               "\x7f",
		64:                "\x80\x01",
		-65:               "\x81\x01",
		8191:              "\xfe\x7f",
		-8192:             "\xff\x7f",
		8192:              "\x80\x80\x01",
		1 << 20:           "\x80\x80\x80\x01",
		1<<62 - 1:         "\xfe\xff\xff\xff\xff\xff\xff\xff\x7f",
		-1 << 62:          "\xff\xff\xff\xff\xff\xff\xff\xff\x7f",
		1 << 62:           "\x80\x80\x80\x80\x80\x80\x80\x80\x80\x01",
		math.MaxInt64:     "\xfe\xff\xff\xff\xff\xff\xff\xff\xff\x01",
		math.MinInt64:     "\xff\xff\xff\xff\xff\xff\xff\xff\xff\x01",
		math.MinInt64 + 1: "\xfd\xff\xff\xff\xff\xff\xff\xff\xff\x01",
	} {
		for _, b := range [][]byte{nil, {}, []byte("x"), []byte("\xff\x00\x80")} {
			if got := Put(b, n); string(got) != string(b)+want {
				t.Errorf("P2.1: Put(%x, %d): %x", b, n, got)
			}
		}
	}
}

// The library, which the package does without, writes and reads the same.
func TestPutAndGet(t *testing.T) {
	ns := edges()
	for n := int64(-70000); n <= 70000; n++ {
		ns = append(ns, n)
	}
	for _, n := range ns {
		b := Put(nil, n)
		if !bytes.Equal(b, binary.AppendVarint(nil, n)) {
			t.Fatalf("P2.1: Put %d: %x", n, b)
		}
		for _, behind := range []string{"", "\x00", "\xff\xff", "abc"} {
			got, k, err := Get(append(bytes.Clone(b), behind...))
			if got != n || k != len(b) || err != api.OK {
				t.Fatalf("P2.1: Get %x and %x: %d, %d, %v", b, behind, got, k, err)
			}
		}
		for cut := range b {
			if got, k, err := Get(b[:cut]); got != 0 || k != 0 || err != api.ErrMore {
				t.Fatalf("P2.1: Get %x: %d, %d, %v", b[:cut], got, k, err)
			}
		}
	}
}

func TestGetErrors(t *testing.T) {
	eight, nine := strings.Repeat("\x80", 8), strings.Repeat("\xff", 9)
	for s, want := range map[string]api.Errno{
		"":                             api.ErrMore,
		"\x80":                         api.ErrMore,
		"\xff\x80":                     api.ErrMore,
		eight:                          api.ErrMore,
		eight + "\x80":                 api.ErrMore,
		nine:                           api.ErrMore,
		"\x80\x00":                     api.ErrForm,
		"\x82\x00":                     api.ErrForm,
		"\x80\x80\x00":                 api.ErrForm,
		"\x80\x00\x01":                 api.ErrForm,
		"\xff\xff\x00ab":               api.ErrForm,
		eight + "\x00":                 api.ErrForm,
		eight + "\x80\x00":             api.ErrForm,
		nine + "\x00":                  api.ErrForm,
		nine + "\x02":                  api.ErrForm,
		nine + "\x03":                  api.ErrForm,
		nine + "\x7f":                  api.ErrForm,
		nine + "\x80":                  api.ErrForm,
		nine + "\x81":                  api.ErrForm,
		nine + "\xff":                  api.ErrForm,
		nine + "\x80\x00":              api.ErrForm,
		eight + "\x80\x80":             api.ErrForm,
		eight + "\x80\x81\x01":         api.ErrForm,
		strings.Repeat("\x80", 100000): api.ErrForm,
		nine + nine + nine + "\x01":    api.ErrForm,
	} {
		if n, k, err := Get([]byte(s)); n != 0 || k != 0 || err != want {
			t.Errorf("P2.1: Get %x: %d, %d, %v", s, n, k, err)
		}
	}
	if n, k, err := Get(nil); n != 0 || k != 0 || err != api.ErrMore {
		t.Errorf("P0.4: Get of nil: %d, %d, %v", n, k, err)
	}
}

// told: what Get is to tell, worked out of the library's reading, which lets numbers be longer than needed.
func told(b []byte) (int64, int, api.Errno) {
	n, k := binary.Varint(b)
	switch {
	case k < 0 || len(b) >= 10 && k == 0:
		return 0, 0, api.ErrForm
	case k == 0:
		return 0, 0, api.ErrMore
	case k != len(binary.AppendVarint(nil, n)):
		return 0, 0, api.ErrForm
	}
	return n, k, api.OK
}

func TestGetOfAllShortLists(t *testing.T) {
	const signs = "\x00\x01\x02\x7f\x80\x81\xff"
	for _, ahead := range []string{"", strings.Repeat("\x80", 8), strings.Repeat("\xff", 8)} {
		eachList(ahead, signs, 4, func(b []byte) {
			n, k, err := Get(b)
			wantN, wantK, want := told(b)
			if n != wantN || k != wantK || err != want {
				t.Fatalf("P2.1: Get %x: %d, %d, %v", b, n, k, err)
			}
		})
	}
}

func TestFour(t *testing.T) {
	for n, want := range map[uint32]string{
		0:              "\x00\x00\x00\x00",
		1:              "\x00\x00\x00\x01",
		0x01020304:     "\x01\x02\x03\x04",
		0xfffefdfc:     "\xff\xfe\xfd\xfc",
		1 << 31:        "\x80\x00\x00\x00",
		math.MaxUint32: "\xff\xff\xff\xff",
	} {
		if got := Four(n); string(got) != want {
			t.Errorf("P2.1: Four(%x): %x", n, got)
		}
	}
}

func TestBytes(t *testing.T) {
	long := strings.Repeat("é", 1<<16)
	for s, want := range map[string]string{
		"":                      "\x00",
		"a":                     "\x02a",
		"abc":                   "\x06abc",
		"é":                     "\x04é",
		"\x00\xff":              "\x04\x00\xff",
		strings.Repeat("x", 63): "\x7e" + strings.Repeat("x", 63),
		strings.Repeat("x", 64): "\x80\x01" + strings.Repeat("x", 64),
		long:                    "\x80\x80\x10" + long,
	} {
		for _, b := range [][]byte{nil, {}, []byte("x"), []byte("\xff\x00\x80")} {
			if got := Bytes(b, s); string(got) != string(b)+want {
				t.Errorf("P2.1: Bytes(%x, %.20q): %.20x", b, s, got)
			}
		}
	}
}

func TestText(t *testing.T) {
	for _, s := range []string{
		"", "a", "abc", "é€😀", "\x00", "\xff\xfe", strings.Repeat("x", 63), strings.Repeat("x", 64),
		strings.Repeat("x", 1<<16-1), strings.Repeat("\xff", 1<<16),
	} {
		b := Bytes(nil, s)
		for _, behind := range []string{"", "\x00", "abc"} {
			got, k, err := Text(append(bytes.Clone(b), behind...))
			if got != s || k != len(b) || err != api.OK {
				t.Errorf("P2.1: Text of %.20q and %q: %.20q, %d, %v", s, behind, got, k, err)
			}
		}
		for cut := 0; cut < len(b); cut += 1 + cut/8 {
			if got, k, err := Text(b[:cut]); got != "" || k != 0 || err != api.ErrMore {
				t.Errorf("P2.1: Text of %d bytes of %.20q: %.20q, %d, %v", cut, s, got, k, err)
			}
		}
		if got, k, err := Text(b[:len(b)-1]); got != "" || k != 0 || err != api.ErrMore {
			t.Errorf("P2.1: Text of all but the last byte of %.20q: %.20q, %d, %v", s, got, k, err)
		}
	}
}

func TestTextErrors(t *testing.T) {
	full := strings.Repeat("x", 1<<16+1)
	for s, want := range map[string]api.Errno{
		"":                                    api.ErrMore,
		"\x80":                                api.ErrMore,
		"\x02":                                api.ErrMore,
		"\x06ab":                              api.ErrMore,
		string(Put(nil, 1<<16)):               api.ErrMore,
		string(Put(nil, 1<<16)) + full[2:]:    api.ErrMore,
		"\x01":                                api.ErrForm,
		"\x01abc":                             api.ErrForm,
		"\x03abc":                             api.ErrForm,
		"\x80\x00":                            api.ErrForm,
		"\x86\x00abc":                         api.ErrForm,
		strings.Repeat("\xff", 10):            api.ErrForm,
		strings.Repeat("\xff", 9) + "\x02":    api.ErrForm,
		string(Bytes(nil, full)):              api.ErrForm,
		string(Put(nil, 1<<16+1)):             api.ErrForm,
		string(Put(nil, 1<<32+3)) + "abc":     api.ErrForm,
		string(Put(nil, 1<<62)):               api.ErrForm,
		string(Put(nil, math.MaxInt64)):       api.ErrForm,
		string(Put(nil, math.MinInt64)):       api.ErrForm,
		string(Put(nil, math.MinInt64)) + "x": api.ErrForm,
	} {
		if got, k, err := Text([]byte(s)); got != "" || k != 0 || err != want {
			t.Errorf("P2.1: Text %.20x: %.20q, %d, %v", s, got, k, err)
		}
	}
	if got, k, err := Text(nil); got != "" || k != 0 || err != api.ErrMore {
		t.Errorf("P0.4: Text of nil: %q, %d, %v", got, k, err)
	}
}

// spare is a list of two bytes within a longer one, so that a write into its spare room is seen.
func spare() (all, b []byte) {
	all = bytes.Repeat([]byte{'s'}, 40)
	return all, all[:2]
}

func TestAnswersAreNew(t *testing.T) {
	for name, call := range map[string]func(b []byte) []byte{
		"Put":   func(b []byte) []byte { return Put(b, math.MinInt64) },
		"Bytes": func(b []byte) []byte { return Bytes(b, "abc") },
		"Four":  func([]byte) []byte { return Four(7) },
	} {
		for _, n := range []int{0, 1, 2} {
			all, b := spare()
			first, second := call(b[:n]), call(b[:n])
			want := bytes.Clone(second)
			first = first[:cap(first)]
			clear(first)
			if !bytes.Equal(second, want) || !bytes.Equal(call(b[:n]), want) {
				t.Errorf("P0.3: %s: %x, not %x", name, second, want)
			}
			if string(all) != strings.Repeat("s", 40) {
				t.Errorf("P0.3: %s wrote into its list: %q", name, all)
			}
		}
	}
}

func TestReadingChangesNothing(t *testing.T) {
	b := Bytes(nil, "abc")
	s, _, _ := Text(b)
	Get(b)
	if string(b) != "\x06abc" {
		t.Errorf("P0.3: %x", b)
	}
	clear(b)
	if s != "abc" {
		t.Errorf("P0.3: the text shares its list's memory: %q", s)
	}
}
