package check

import (
	"fmt"
	"math"
	"slices"
	"strings"
	"testing"

	"quintain/api"
	"quintain/asm"
	"quintain/code"
)

const (
	low  = math.MinInt32
	high = math.MaxInt32
)

// rules: of each Code what A, B and C are: c a cell, n any number, o an operation, - nothing.
var rules = []string{
	"---", "cn-", "cc-", "ccc", "ccc", "ccc", "ccc", "ccc", "ccc", "o--", "co-", "cc-", "cc-", "cc-", "cc-", "c--",
}

// edges: the bounds of each rule, what lies beside them, and what is the same as a cell in 5, 8 or 16 bits.
var edges = []int{low, low + 1, -256, -32, -2, -1, 0, 1, 2, 3, 4, 30, 31, 32, 33, 63, 64, 65, 256, 1 << 16, 1<<16 + 31, high - 1, high}

// rule reads one of rules' letters; a program has many operations.
func rule(letter byte, n, many int) bool {
	most := map[byte]int{'-': 0, 'c': 31, 'o': many, 'n': high}
	least := map[byte]int{'n': low}
	return n >= least[letter] && n <= most[letter]
}

func program(ops ...api.Op) api.Prog { return api.Prog{Title: "a", Ops: ops} }

// among: op is the at-th of many operations, all others of which may be.
func among(op api.Op, at, many int) api.Prog {
	ops := make([]api.Op, many)
	ops[at] = op
	return program(ops...)
}

func shown(p api.Prog) string {
	return fmt.Sprintf("%.30q, %d operations %v", p.Title, len(p.Ops), p.Ops[:min(4, len(p.Ops))])
}

func told(t *testing.T, p api.Prog, want int) {
	t.Helper()
	if got := Fault(p); got != want {
		t.Errorf("P7.1: Fault of %s: %d, not %d", shown(p), got, want)
	}
	if got := May(p); got != (want == -1) {
		t.Errorf("P7.1: May of %s: %v", shown(p), got)
	}
}

func TestEachCodeAndNumber(t *testing.T) {
	for c, letters := range rules {
		for _, a := range edges {
			for _, b := range edges {
				for _, d := range edges {
					want := 1
					if rule(letters[0], a, 3) && rule(letters[1], b, 3) && rule(letters[2], d, 3) {
						want = -1
					}
					told(t, among(api.Op{Code: c, A: a, B: b, C: d}, 1, 3), want)
				}
			}
		}
	}
}

func TestNoSuchCode(t *testing.T) {
	for _, c := range []int{low, -65536, -256, -16, -15, -2, -1, 16, 17, 31, 32, 255, 256, 257, 65536, 65537, 1 << 30, high} {
		for _, n := range []int{0, 1} {
			told(t, program(api.Op{Code: c, A: n}), 0)
			told(t, among(api.Op{Code: c, A: n, B: n, C: n}, 4, 6), 4)
		}
	}
	for c := range rules {
		told(t, program(api.Op{Code: c}), -1)
	}
}

func TestAllCells(t *testing.T) {
	for n := -40; n <= 80; n++ {
		want := 2
		if n >= 0 && n <= 31 {
			want = -1
		}
		for c, letters := range rules {
			if letters[0] == 'c' {
				told(t, among(api.Op{Code: c, A: n}, 2, 5), want)
			}
			if letters[1] == 'c' {
				told(t, among(api.Op{Code: c, B: n}, 2, 5), want)
			}
			if letters[2] == 'c' {
				told(t, among(api.Op{Code: c, C: n}, 2, 5), want)
			}
		}
	}
}

// An operation's number reaches up to the one behind the last one, whatever the program's length, wherever it stands.
func TestNumbersOfOperations(t *testing.T) {
	for many := 1; many <= api.MaxOps; many++ {
		for _, at := range []int{0, many / 2, many - 1} {
			for _, n := range []int{low, -many, -1, 0, 1, at, many - 1, many, many + 1, many + 2, 64, 65, 66, high} {
				want := at
				if n >= 0 && n <= many {
					want = -1
				}
				told(t, among(api.Op{Code: api.KJump, A: n}, at, many), want)
				told(t, among(api.Op{Code: api.KZero, A: 31, B: n}, at, many), want)
			}
		}
	}
}

func TestNumbersThatAreSet(t *testing.T) {
	for _, n := range edges {
		told(t, program(api.Op{Code: api.KSet, A: 31, B: n}), -1)
		told(t, program(api.Op{Code: api.KSet, A: 32, B: n}), 0)
	}
}

func TestTheFirstFault(t *testing.T) {
	bad := api.Op{Code: api.KAdd, A: 32}
	for at := range api.MaxOps {
		p := among(bad, at, api.MaxOps)
		told(t, p, at)
		p.Ops[api.MaxOps-1] = api.Op{Code: -1}
		told(t, p, at)
		for i := at; i < api.MaxOps; i++ {
			p.Ops[i] = bad
		}
		told(t, p, at)
	}
}

// A fault behind a halt, or where no jump leads, is a fault.
func TestFaultsThatAreNeverDone(t *testing.T) {
	halt, jump, bad := api.Op{}, api.Op{Code: api.KJump, A: 3}, api.Op{Code: api.KTime, A: 32}
	told(t, program(halt, bad), 1)
	told(t, program(jump, bad, bad), 1)
	told(t, program(jump, halt, halt), -1)
	told(t, program(api.Op{Code: api.KJump}), -1)
}

func TestTitles(t *testing.T) {
	for _, title := range []string{" ", "#", " a ", "é€😀", "\uFFFD", "\u0080", strings.Repeat("x", 20), strings.Repeat("😀", 20)} {
		told(t, api.Prog{Title: title, Ops: []api.Op{{}}}, -1)
		told(t, api.Prog{Title: title, Ops: []api.Op{{}, {Code: 16}}}, 1)
	}
}

// unwritten: programs whose Encode is nil; op is in each that has operations.
func unwritten(op api.Op) []api.Prog {
	progs := []api.Prog{
		{},
		{Title: "a"},
		{Title: "a", Ops: []api.Op{}},
		among(op, 0, 65),
		among(op, 64, 65),
		among(op, 7, 1<<16),
		{Ops: make([]api.Op, 65)},
	}
	for _, title := range []string{"", "\n", "a\t", "\x7f", "\xff", "\xed\xa0\x80", strings.Repeat("x", 21), strings.Repeat("x", 1<<16)} {
		progs = append(progs, api.Prog{Title: title, Ops: []api.Op{op}}, api.Prog{Title: title, Ops: []api.Op{{}, op}})
	}
	for _, n := range []int{low - 1, high + 1, 1 << 32, 1<<32 + 1, -1 << 32, math.MinInt, math.MaxInt} {
		for _, wrong := range []api.Op{{Code: n}, {A: n}, {B: n}, {C: n}, {Code: api.KSet, B: n}, {Code: api.KJump, A: n}, {Code: api.KMov, A: n}} {
			progs = append(progs, program(wrong), program(op, wrong), program(wrong, op))
		}
	}
	return progs
}

// Of a program that can't be written no operation is told, whether one may not be or all may.
func TestUnwrittenPrograms(t *testing.T) {
	for _, op := range []api.Op{{}, {Code: api.KMov, A: 1, B: 2}, {Code: api.KMov, A: 32}, {Code: 16}, {A: 1}} {
		for _, p := range unwritten(op) {
			if code.Encode(p) != nil {
				t.Fatalf("it can be written: %s", shown(p))
			}
			told(t, p, -2)
		}
	}
}

// Numbers that are not taken are what asm can't print, whatever the Code.
func TestAsPrinted(t *testing.T) {
	for c := -1; c <= 16; c++ {
		for i := range 8 {
			p := program(api.Op{Code: c, A: i & 1, B: i >> 1 & 1, C: i >> 2})
			if printed := asm.Print(p) != ""; May(p) != printed {
				t.Errorf("P7.1: May of %s: %v; printed: %v", shown(p), May(p), printed)
			}
		}
	}
}

func TestAWholeProgram(t *testing.T) {
	const text = "title pong\ntime 0\nset 1 2147483647\nset 2 -2147483648\nload 3 1\nkeep 3 2\nrune 4 31\nin 5 0\n" +
		"zero 5 16\nadd 6 5 4\nsub 6 6 31\nmul 7 6 6\ndiv 7 7 0\nless 8 7 6\nsame 9 8 8\njump 0\nmov 31 9\n"
	p, _, err := asm.Parse(text)
	if err != api.OK {
		t.Fatal(err)
	}
	told(t, p, -1)
	told(t, api.Prog{Title: p.Title, Ops: p.Ops[:15]}, 7)
	p.Ops[14].A = 17
	told(t, p, 14)
	p.Ops[5].B = 32
	told(t, p, 5)
}

func TestArgumentsStay(t *testing.T) {
	for _, bad := range []api.Op{{Code: api.KSet, B: 5}, {Code: api.KMov, A: 32}} {
		all := []api.Op{{Code: 1}, bad, {Code: 2}, {Code: 3}, {Code: 99}}
		p := program(all[1:3]...)
		old := slices.Clone(all)
		first := Fault(p)
		if May(p) != (first == -1) || Fault(p) != first || !slices.Equal(all, old) {
			t.Errorf("P0.3: of %v came %v", old, all)
		}
		// What was asked before, and what lies in a list's spare room, is no part of it.
		all[1] = api.Op{Code: api.KJump, A: 2}
		told(t, p, -1)
		all[1].A = 3
		told(t, p, 0)
	}
}
