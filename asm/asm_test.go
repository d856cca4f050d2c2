package asm

import (
	"fmt"
	"math"
	"reflect"
	"regexp"
	"slices"
	"strconv"
	"strings"
	"testing"
	"unicode/utf8"

	"quintain/api"
	"quintain/code"
)

const (
	low  = math.MinInt32
	high = math.MaxInt32
)

// shapes: an operation of each Code, its numbers told apart, and its line.
var shapes = []struct {
	op   api.Op
	line string
}{
	{api.Op{Code: api.KHalt}, "halt"},
	{api.Op{Code: api.KSet, A: 1, B: -20}, "set 1 -20"},
	{api.Op{Code: api.KMov, A: 1, B: 20}, "mov 1 20"},
	{api.Op{Code: api.KAdd, A: 1, B: 20, C: 300}, "add 1 20 300"},
	{api.Op{Code: api.KSub, A: 1, B: 20, C: 300}, "sub 1 20 300"},
	{api.Op{Code: api.KMul, A: 1, B: 20, C: 300}, "mul 1 20 300"},
	{api.Op{Code: api.KDiv, A: 1, B: 20, C: 300}, "div 1 20 300"},
	{api.Op{Code: api.KLess, A: 1, B: 20, C: 300}, "less 1 20 300"},
	{api.Op{Code: api.KSame, A: 1, B: 20, C: 300}, "same 1 20 300"},
	{api.Op{Code: api.KJump, A: 1}, "jump 1"},
	{api.Op{Code: api.KZero, A: 1, B: 20}, "zero 1 20"},
	{api.Op{Code: api.KIn, A: 1, B: 20}, "in 1 20"},
	{api.Op{Code: api.KLoad, A: 1, B: 20}, "load 1 20"},
	{api.Op{Code: api.KKeep, A: 1, B: 20}, "keep 1 20"},
	{api.Op{Code: api.KRune, A: 1, B: 20}, "rune 1 20"},
	{api.Op{Code: api.KTime, A: 1}, "time 1"},
}

// takes: how many numbers stand behind the name.
func takes(line string) int { return len(strings.Fields(line)) - 1 }

func one(op api.Op) api.Prog { return api.Prog{Title: "a", Ops: []api.Op{op}} }

func titled(title string) api.Prog { return api.Prog{Title: title, Ops: []api.Op{{}}} }

// allShapes: an operation of each Code, n of them behind one another.
func allShapes(n int) api.Prog {
	p := api.Prog{Title: "go"}
	for i := range n {
		p.Ops = append(p.Ops, shapes[i%16].op)
	}
	return p
}

// shown: the beginning of a program.
func shown(p api.Prog) string {
	return fmt.Sprintf("%.40q, %d operations %v", p.Title, len(p.Ops), p.Ops[:min(4, len(p.Ops))])
}

func taken(t *testing.T, s string, want api.Prog) {
	t.Helper()
	if p, n, err := Parse(s); !reflect.DeepEqual(p, want) || n != 0 || err != api.OK {
		t.Errorf("P6.2: Parse(%.80q): %s, %d, %v", s, shown(p), n, err)
	}
}

func refused(t *testing.T, s string, line int) {
	t.Helper()
	if p, n, err := Parse(s); p.Title != "" || p.Ops != nil || n != line || err != api.ErrForm {
		t.Errorf("P6.2: Parse(%.80q): %s, %d, %v; not line %d", s, shown(p), n, err, line)
	}
}

func TestEachOperation(t *testing.T) {
	for c, x := range shapes {
		if x.op.Code != c {
			t.Fatalf("the shape %d is of the Code %d", c, x.op.Code)
		}
		text := "title a\n" + x.line + "\n"
		if got := Print(one(x.op)); got != text {
			t.Errorf("P6.1: Print of %v: %q", x.op, got)
		}
		taken(t, text, one(x.op))
	}
}

func TestPrintRefusesNumbersNotTaken(t *testing.T) {
	for _, x := range shapes {
		for i, extra := range []api.Op{{A: 1}, {B: 1}, {C: 1}} {
			for _, n := range []int{1, -1, low, high} {
				op := x.op
				op.A += n * extra.A
				op.B += n * extra.B
				op.C += n * extra.C
				if i >= takes(x.line) && Print(one(op)) != "" {
					t.Errorf("P6.1: Print of %v: %q", op, Print(one(op)))
				}
			}
		}
	}
}

func TestParseTakesJustAsManyNumbers(t *testing.T) {
	for _, x := range shapes {
		name := strings.Fields(x.line)[0]
		for many := range 6 {
			text := "title a\n" + name + strings.Repeat(" 7", many)
			if many != takes(x.line) {
				refused(t, text, 2)
			} else if p, n, err := Parse(text); err != api.OK || n != 0 || p.Ops[0].Code != x.op.Code {
				t.Errorf("P6.2: Parse(%q): %v, %d, %v", text, p, n, err)
			}
		}
		for i := 1; i <= takes(x.line); i++ {
			words := strings.Fields(x.line)
			words[i] += "x"
			refused(t, "title a\n"+strings.Join(words, " "), 2)
		}
	}
}

func TestPrintRefusesCodes(t *testing.T) {
	for _, c := range []int{-1, -2, 16, 17, 32, 256, low, high, low - 1, high + 1, 1 << 32, math.MinInt, math.MaxInt} {
		if got := Print(one(api.Op{Code: c})); got != "" {
			t.Errorf("P6.1: Print of the Code %d: %q", c, got)
		}
		if got := Print(api.Prog{Title: "a", Ops: []api.Op{{}, {Code: c}, {}}}); got != "" {
			t.Errorf("P6.1: Print of the Code %d between others: %q", c, got)
		}
	}
}

func TestNumbers(t *testing.T) {
	for _, n := range []int{0, 1, -1, 9, 10, -10, 100, high - 1, high, low + 1, low} {
		p := one(api.Op{Code: api.KAdd, A: n, B: n, C: n})
		text := "title a\nadd" + strings.Repeat(" "+strconv.Itoa(n), 3) + "\n"
		if got := Print(p); got != text {
			t.Errorf("P6.1: Print of %d: %q", n, got)
		}
		taken(t, text, p)
	}
	for _, n := range []int{high + 1, low - 1, 1 << 32, math.MaxInt, math.MinInt} {
		for i, op := range []api.Op{{Code: 3, A: n}, {Code: 3, B: n}, {Code: 3, C: n}} {
			if got := Print(one(op)); got != "" {
				t.Errorf("P6.1: Print of %v: %q", op, got)
			}
			words := []string{"add", "0", "0", "0"}
			words[i+1] = strconv.Itoa(n)
			refused(t, "title a\n"+strings.Join(words, " "), 2)
		}
	}
	for _, word := range []string{"-", "--1", "+1", "-0", "00", "01", "-01", "1.", "0x1", "1_0", "1e1", "１", "a", "1\xff", "1\x00", "18446744073709551617"} {
		refused(t, "title a\ntime "+word, 2)
	}
}

func TestTitles(t *testing.T) {
	for _, title := range []string{
		"a", "~", "title", "halt", "a b", "a  b", "!\"$", "é€😀", "\uFFFD", "\u0080\u009f", "\u00a0a\u00a0",
		"\u2003", strings.Repeat("x", 20), strings.Repeat("😀", 20), "a" + strings.Repeat(" ", 18) + "b",
	} {
		text := "title " + title + "\nhalt\n"
		if got := Print(titled(title)); got != text {
			t.Errorf("P6.1: Print of the title %q: %q", title, got)
		}
		taken(t, text, titled(title))
	}
	for _, title := range []string{
		"", "\x00", "a\x1fb", "a\x7fb", "a\tb", "a\rb", "a\r", "\xff", "a\xc3", "\xed\xa0\x80", "a\xe2\x82b",
		strings.Repeat("x", 21), strings.Repeat("😀", 21), strings.Repeat("x", 1<<17), "a" + strings.Repeat(" ", 19) + "b",
	} {
		if got := Print(titled(title)); got != "" {
			t.Errorf("P6.1: Print of the title %.40q: %.80q", title, got)
		}
		refused(t, "\ntitle "+title+"\nhalt\n", 2)
	}
}

func TestPrintRefusesTitlesThatReadingShortens(t *testing.T) {
	for _, title := range []string{
		" ", "  ", " a", "a ", " a ", "#", "a#", "#a", "a#b", "a # b", "##", "é#", "é ", " é", "a\nb", "a\n", "\na", "a\t", "\ta",
		strings.Repeat("x", 19) + "#", strings.Repeat("x", 19) + " ",
	} {
		if got := Print(titled(title)); got != "" {
			t.Errorf("P6.1: Print of the title %q: %q", title, got)
		}
	}
}

func TestHowManyOperations(t *testing.T) {
	for _, p := range []api.Prog{{}, {Title: "a"}, {Title: "a", Ops: []api.Op{}}, {Ops: []api.Op{{}}}, allShapes(65), allShapes(1000)} {
		if got := Print(p); got != "" {
			t.Errorf("P6.1: Print of %d operations: %.40q", len(p.Ops), got)
		}
	}
	for _, n := range []int{1, 2, 16, 63, 64} {
		p := allShapes(n)
		var want strings.Builder
		want.WriteString("title go\n")
		for i := range n {
			want.WriteString(shapes[i%16].line + "\n")
		}
		if got := Print(p); got != want.String() {
			t.Errorf("P6.1: Print of %d operations: %q", n, got)
		}
		taken(t, want.String(), p)
		taken(t, strings.TrimSuffix(want.String(), "\n"), p)
	}
	full := Print(allShapes(64))
	for s, line := range map[string]int{
		full + "halt":            66,
		full + "halt\n":          66,
		full + "stop\n":          66,
		full + "halt\nstop\n":    66,
		full + "stop\nhalt\n":    66,
		full + "\n# x\n \thalt":  68,
		"\n\n" + full + "halt":   68,
		full + "title b":         66,
		full + full:              66,
		full + "set 1 2 # y\n#z": 66,
	} {
		refused(t, s, line)
	}
	taken(t, full+"\n # halt\n\t\n#", allShapes(64))
}

func TestParse(t *testing.T) {
	halt, set := titled("a"), one(api.Op{Code: api.KSet, A: 1, B: -2})
	for s, want := range map[string]api.Prog{
		"title a\nhalt":                        halt,
		"title a\nhalt\n":                      halt,
		"title a\nhalt\n\n":                    halt,
		"\n\n\ntitle a\n\n\nhalt":              halt,
		" title a \n\thalt\t":                  halt,
		"title\ta\nhalt":                       halt,
		"title \t \t a\nhalt":                  halt,
		"title a#b\nhalt#c":                    halt,
		"title a # b\nhalt \t# c":              halt,
		"#\n# title b\ntitle a\n#halt\nhalt":   halt,
		"title a#\n##\nhalt###\n":              halt,
		"# \xff\x00\x7f\r\ntitle a\nhalt#\xff": halt,
		"title a\nset 1 -2":                    set,
		"title a\nset\t1\t-2":                  set,
		" \ttitle a\t \n \tset \t1\t -2\t ":    set,
		"title a b \t\nhalt":                   titled("a b"),
		"title  a  b\nhalt":                    titled("a  b"),
		"title title\nhalt":                    titled("title"),
		"title title a\nhalt":                  titled("title a"),
		"title halt\nhalt":                     titled("halt"),
		"title é\nhalt # é":                    titled("é"),
		"title \u00a0\u2028\nhalt":             titled("\u00a0\u2028"),
		"title a\nhalt\nset 1 -2\nhalt":        {Title: "a", Ops: []api.Op{{}, set.Ops[0], {}}},
	} {
		taken(t, s, want)
	}
}

func TestParseErrors(t *testing.T) {
	for s, line := range map[string]int{
		"":                                0,
		"\n":                              0,
		" \t\n#\n # x\n\n":                0,
		"#title a\n#halt":                 0,
		"title a":                         0,
		"title a\n":                       0,
		"title a\n\n#halt\n":              0,
		"halt":                            1,
		"\n#\n \nhalt\ntitle a":           4,
		"title":                           1,
		"title\nhalt":                     1,
		"title \t \nhalt":                 1,
		"title # a\nhalt":                 1,
		"title#a\nhalt":                   1,
		"titlea\nhalt":                    1,
		"title\u00a0a\nhalt":              1,
		"title\xff a\nhalt":               1,
		"title\ra\nhalt":                  1,
		"Title a\nhalt":                   1,
		"TITLE a\nhalt":                   1,
		"titl a\nhalt":                    1,
		"a title a\nhalt":                 1,
		"ttitle a\nhalt":                  1,
		"title a\tb\nhalt":                1,
		"title a\r\nhalt":                 1,
		"\r\ntitle a\nhalt":               1,
		"title a\rhalt\r":                 1,
		"title a\n\r\nhalt":               2,
		"title a\ntitle b\nhalt":          2,
		"title a\ntitle\nhalt":            2,
		"title a\nHalt":                   2,
		"title a\nhal":                    2,
		"title a\nhalts":                  2,
		"title a\nhalt halt":              2,
		"title a\nhalt\r":                 2,
		"title a\nhalt,":                  2,
		"title a\n1":                      2,
		"title a\n1 set 2":                2,
		"title a\nset 1, 2":               2,
		"title a\nset 1\u00a02":           2,
		"title a\nset 1\v2":               2,
		"title a\nset1 2":                 2,
		"title a\nset 1 # 2":              2,
		"title a\nset 1#2":                2,
		"title a\nset 1\n2":               2,
		"title a\n\"halt\"":               2,
		"title a\n\xff":                   2,
		"title a\nhalt\n\nhalt\n#\nx\ny":  6,
		"title a\nhalt\nx":                3,
		"title a\nhalt\n\xef\xbb\xbfhalt": 3,
		"\xef\xbb\xbftitle a\nhalt":       1,
		"title a\n\x00":                   2,
		"title a\nhalt\x00":               2,
		"title a\u0085halt":               0,
	} {
		refused(t, s, line)
	}
}

func TestLongTexts(t *testing.T) {
	const many = 1 << 18
	for _, x := range []struct {
		s    string
		line int
	}{
		{strings.Repeat("\n", many), 0},
		{strings.Repeat(" ", many), 0},
		{strings.Repeat("#", many), 0},
		{strings.Repeat("\x00", many), 1},
		{strings.Repeat("\xff", many), 1},
		{strings.Repeat("\n", many) + "x", many + 1},
		{"title " + strings.Repeat("😀", many) + "\nhalt", 1},
		{"title a\n" + strings.Repeat("#\n", many) + "x", many + 2},
		{"title a\n" + strings.Repeat("halt ", many), 2},
		{"title a\nset" + strings.Repeat(" 1", many), 2},
		{"title a\ntime " + strings.Repeat("1", many), 2},
		{"title a\n" + strings.Repeat("halt\n", many), 66},
		{strings.Repeat("title a\n", many), 2},
	} {
		refused(t, x.s, x.line)
	}
	gap := strings.Repeat(" \t", many)
	taken(t, gap+"title"+gap+"a"+gap+"\n"+gap+"halt"+gap+"#"+gap, titled("a"))
}

// told: what Parse is to tell, worked out by the library line by line.
func told(s string) (api.Prog, int, api.Errno) {
	var p api.Prog
	for i, line := range strings.Split(s, "\n") {
		line = lineForm.FindStringSubmatch(line)[1]
		if line == "" {
			continue
		}
		if m := titleForm.FindStringSubmatch(line); p.Title == "" && m != nil && utf8.ValidString(m[1]) {
			p.Title = m[1]
			continue
		}
		op, ok := toldOp(line)
		if p.Title == "" || !ok || len(p.Ops) == 64 {
			return api.Prog{}, i + 1, api.ErrForm
		}
		p.Ops = append(p.Ops, op)
	}
	if p.Ops == nil {
		return api.Prog{}, 0, api.ErrForm
	}
	return p, 0, api.OK
}

var (
	lineForm  = regexp.MustCompile(`(?s)^[ \t]*([^#]*?)[ \t]*(?:#.*)?$`)
	titleForm = regexp.MustCompile(`^title[ \t]+([^\x00-\x1f\x7f]{1,20})$`)
	opForm    = regexp.MustCompile(`^([a-z]+)((?:[ \t]+(?:0|-?[1-9][0-9]*))*)$`)
)

func toldOp(line string) (api.Op, bool) {
	m := opForm.FindStringSubmatch(line)
	if m == nil {
		return api.Op{}, false
	}
	var n [4]int
	words := strings.Fields(m[2])
	for i, word := range words[:min(4, len(words))] {
		k, err := strconv.ParseInt(word, 10, 32)
		if err != nil {
			return api.Op{}, false
		}
		n[i] = int(k)
	}
	for c, x := range shapes {
		if strings.Fields(x.line)[0] == m[1] {
			return api.Op{Code: c, A: n[0], B: n[1], C: n[2]}, len(words) == takes(x.line)
		}
	}
	return api.Op{}, false
}

// eachText asks f for all texts of up to n of the parts.
func eachText(parts []string, n int, ahead string, f func(s string)) {
	f(ahead)
	if n == 0 {
		return
	}
	for _, part := range parts {
		eachText(parts, n-1, ahead+part, f)
	}
}

func TestShortTexts(t *testing.T) {
	parts := []string{"\n", " ", "\t", "#", "title", "halt", "set", "time", "a", "1", "-2", "0", "é", "\xff", "\r"}
	oks := 0
	for _, ahead := range []string{"", "title", "title a\n", "title a\nset 1", "#\ntitle a#\nhalt"} {
		eachText(parts, 4, ahead, func(s string) {
			p, n, err := Parse(s)
			wantP, wantN, want := told(s)
			if !reflect.DeepEqual(p, wantP) || n != wantN || err != want {
				t.Fatalf("P6.2: Parse(%q): %v, %d, %v; not %v, %d, %v", s, p, n, err, wantP, wantN, want)
			}
			if err != api.OK {
				return
			}
			oks++
			if q, n, err := Parse(Print(p)); !code.Eq(p, q) || n != 0 || err != api.OK {
				t.Fatalf("P6.2: Parse(Print(p)) of %v: %v, %d, %v", p, q, n, err)
			}
		})
	}
	if oks < 1000 {
		t.Errorf("%d of the texts are programs: too few to tell", oks)
	}
}

// Whatever Print writes comes back, and just what can't come back isn't written.
func TestShortTitles(t *testing.T) {
	parts := []string{" ", "#", "a", "é", "\xff", "\t", "\n", "\uFFFD", strings.Repeat("x", 17)}
	eachText(parts, 5, "", func(title string) {
		p := titled(title)
		q, n, err := Parse("title " + title + "\nhalt\n")
		comes := err == api.OK && n == 0 && code.Eq(p, q)
		if text := Print(p); comes != (text == "title "+title+"\nhalt\n") || comes != (text != "") {
			t.Fatalf("P6.1: Print of the title %q: %q", title, text)
		}
	})
}

func TestAnswersAreNew(t *testing.T) {
	p := allShapes(16)
	text := Print(p)
	one, _, _ := Parse(text)
	two, _, _ := Parse(text)
	clear(one.Ops[:cap(one.Ops)])
	if three, _, _ := Parse(text); !code.Eq(two, p) || !code.Eq(three, p) {
		t.Errorf("P0.3: Parse: %v, not %v", two, p)
	}
	if Print(p) != text {
		t.Errorf("P0.3: Print: %q", Print(p))
	}
}

func TestArgumentsStay(t *testing.T) {
	all := allShapes(16).Ops
	p := api.Prog{Title: "go", Ops: all[2:5]}
	text := Print(p)
	if !slices.Equal(all, allShapes(16).Ops) {
		t.Errorf("P0.3: the operations were written into: %v", all)
	}
	all[2].A++
	if Print(p) == text {
		t.Error("P0.3: old operations were read")
	}
}
