package snap

import (
	"fmt"
	"math"
	"slices"
	"testing"

	"quintain/state"
)

const (
	low  = math.MinInt32
	high = math.MaxInt32
)

// values: at the ends of 32 bits and of each of their bytes.
var values = []int32{
	0, 1, -1, 2, -2, 127, 128, 255, 256, -128, -129, -255, -256, 32767, 32768, 65535, 65536, -32768, -32769, -65536,
	1<<24 - 1, 1 << 24, -1 << 24, 0x01020304, 0x7f80ff00, low, low + 1, high - 1, high,
}

// far: numbers that are no cell's, those too that come to one when they wrap or lose their upper bits.
var far = []int{
	-1, -2, -3, -7, -8, -9, -31, -32, -33, -255, -256, low, low - 1, low + 1, -1 << 32, -1<<32 + 1, -1 << 61, -1<<61 + 1,
	math.MinInt, math.MinInt + 1, math.MinInt + 9, 32, 33, 39, 40, 63, 64, 128, 255, 256, 257, 1000, 1 << 16, 1<<16 + 1, high, 1 << 31, 1<<31 + 1,
	1 << 32, 1<<32 + 1, 1<<32 + 31, 1 << 61, 1<<61 + 1, 1<<62 + 1, 3 << 61, 3<<61 + 8, math.MaxInt - 1, math.MaxInt,
}

// noise gives numbers without a pattern that is short, always the same of one seed.
type noise uint32

func (n *noise) next(below int) int {
	*n = 1664525**n + 1013904223
	return int(uint64(*n^*n>>13) * uint64(below) >> 32)
}

// game is one whose cells are told from each other, and from those of other hundreds.
func game(hundred int) state.State {
	var st state.State
	for i := range st {
		st[i] = int32(100*hundred + i + 1)
	}
	return st
}

// whole: the room's Refs of each page is the number of live pictures that have it, and Used the number of pages that some have.
func whole(t *testing.T, s *Store) {
	t.Helper()
	had := map[int]int{}
	for _, x := range s.Live() {
		for _, p := range s.Pages(x) {
			had[p]++
		}
	}
	for p := -1; p <= 202; p++ {
		if got := s.Room().Refs(p); got != had[p] {
			t.Errorf("P11.1: Refs(%d) of the room: %d, of %d pictures", p, got, had[p])
		}
	}
	uses(t, s, len(had))
}

func uses(t *testing.T, s *Store, want int) {
	t.Helper()
	if got := s.Room().Used(); got != want {
		t.Errorf("P11.1: Used of the room: %d, not %d", got, want)
	}
}

// frees: so many pages are free, just these.
func frees(t *testing.T, s *Store, want int) {
	t.Helper()
	for n := -1; n <= want; n++ {
		if !s.Has(n) {
			t.Errorf("P11.1: Has(%d): false, with %d free", n, want)
		}
	}
	for n := want + 1; n < want+9; n++ {
		if s.Has(n) {
			t.Errorf("P11.1: Has(%d), with %d free", n, want)
		}
	}
}

// makes: there is a picture of st, on four new pages.
func makes(t *testing.T, s *Store, st state.State) Snap {
	t.Helper()
	used, live := s.Room().Used(), s.Live()
	x, ok := s.Make(st)
	if !ok || x < 1 {
		t.Fatalf("P11.1: Make: %d, %t", x, ok)
	}
	uses(t, s, used+4)
	lives(t, s, append(live, x))
	held(t, s, x, 1)
	shows(t, s, x, st)
	for _, p := range s.Pages(x) {
		if n := s.Room().Refs(p); n != 1 {
			t.Errorf("P11.1: Make: the page %d is held %d times", p, n)
		}
	}
	whole(t, s)
	return x
}

// makesNone: there are not four pages free, and nothing is taken.
func makesNone(t *testing.T, s *Store) {
	t.Helper()
	used, live := s.Room().Used(), s.Live()
	if x, ok := s.Make(game(77)); x != 0 || ok {
		t.Errorf("P11.1: Make without room: %d, %t", x, ok)
	}
	uses(t, s, used)
	lives(t, s, live)
	whole(t, s)
}

// forks: there is another picture with x' pages.
func forks(t *testing.T, s *Store, x Snap) Snap {
	t.Helper()
	used, live, refs, pages := s.Room().Used(), s.Live(), s.Refs(x), s.Pages(x)
	var times []int
	for _, p := range pages {
		times = append(times, s.Room().Refs(p))
	}
	st, _ := s.State(x)
	y, ok := s.Fork(x)
	if !ok || y < 1 || slices.Contains(live, y) {
		t.Fatalf("P11.1: Fork(%d): %d, %t", x, y, ok)
	}
	uses(t, s, used)
	lives(t, s, append(live, y))
	held(t, s, x, refs)
	held(t, s, y, 1)
	paged(t, s, x, pages)
	paged(t, s, y, pages)
	for i, p := range pages {
		if n := s.Room().Refs(p); n != times[i]+1 {
			t.Errorf("P11.1: Fork(%d): the page %d is held %d times, and was %d times", x, p, n, times[i])
		}
	}
	shows(t, s, x, st)
	shows(t, s, y, st)
	whole(t, s)
	return y
}

// sets: the cell is v behind it, and all others of x are as they were.
func sets(t *testing.T, s *Store, x Snap, cell int, v int32) {
	t.Helper()
	st, _ := s.State(x)
	if !s.Set(x, cell, v) {
		t.Errorf("P11.1: Set(%d, %d, %d): false", x, cell, v)
		return
	}
	st[cell] = v
	shows(t, s, x, st)
}

// setsNot: Set is refused, and changes nothing.
func setsNot(t *testing.T, s *Store, x Snap, cell int) {
	t.Helper()
	used, pages := s.Room().Used(), s.Pages(x)
	st, _ := s.State(x)
	v := int32(-123456)
	if s.Set(x, cell, v) {
		t.Errorf("P11.1: Set(%d, %d)", x, cell)
	}
	uses(t, s, used)
	paged(t, s, x, pages)
	if len(pages) > 0 {
		shows(t, s, x, st)
	}
	whole(t, s)
}

func holds(t *testing.T, s *Store, x Snap) {
	t.Helper()
	used, refs, pages := s.Room().Used(), s.Refs(x), s.Pages(x)
	if !s.Hold(x) {
		t.Errorf("P11.1: Hold(%d): false", x)
	}
	uses(t, s, used)
	held(t, s, x, refs+1)
	paged(t, s, x, pages)
}

func drops(t *testing.T, s *Store, x Snap) {
	t.Helper()
	refs := s.Refs(x)
	if !s.Drop(x) {
		t.Errorf("P11.1: Drop(%d): false", x)
	}
	held(t, s, x, refs-1)
	if refs == 1 {
		notLive(t, s, x)
	}
	whole(t, s)
}

func held(t *testing.T, s *Store, x Snap, want int) {
	t.Helper()
	if got := s.Refs(x); got != want {
		t.Errorf("P11.1: Refs(%d): %d, not %d", x, got, want)
	}
}

func paged(t *testing.T, s *Store, x Snap, want []int) {
	t.Helper()
	if got := s.Pages(x); !slices.Equal(got, want) {
		t.Errorf("P11.1: Pages(%d): %d, not %d", x, got, want)
	}
}

func lives(t *testing.T, s *Store, want []Snap) {
	t.Helper()
	if got := s.Live(); !slices.Equal(got, want) {
		t.Errorf("P11.1: Live: %d, not %d", got, want)
	}
}

// shows: x is a picture of st, asked as a whole, cell by cell and on its pages.
func shows(t *testing.T, s *Store, x Snap, st state.State) {
	t.Helper()
	if got, ok := s.State(x); got != st || !ok {
		t.Errorf("P11.1: State(%d): %d, %t, not %d", x, got, ok, st)
	}
	pages := s.Pages(x)
	if len(pages) != 4 {
		t.Fatalf("P11.1: Pages(%d): %d", x, pages)
	}
	for i, want := range st {
		if v, ok := s.Get(x, i); v != want || !ok {
			t.Errorf("P11.1: Get(%d, %d): %d, %t, not %d", x, i, v, ok, want)
		}
		if v, ok := s.Room().Get(pages[i/8], i%8); v != want || !ok {
			t.Errorf("P11.1: the page %d of %d has %d, %t, not %d", pages[i/8], x, v, ok, want)
		}
	}
}

// notLive: x answers 0, false, nil to all calls, and none of them changes the store.
func notLive(t *testing.T, s *Store, x Snap) {
	t.Helper()
	used, live := s.Room().Used(), s.Live()
	if y, ok := s.Fork(x); y != 0 || ok {
		t.Errorf("P11.1: Fork(%d): %d, %t", x, y, ok)
	}
	if s.Hold(x) {
		t.Errorf("P11.1: Hold(%d)", x)
	}
	if s.Drop(x) {
		t.Errorf("P11.1: Drop(%d)", x)
	}
	for _, cell := range append([]int{0, 1, 7, 8, 31}, far...) {
		if v, ok := s.Get(x, cell); v != 0 || ok {
			t.Errorf("P11.1: Get(%d, %d): %d, %t", x, cell, v, ok)
		}
		if s.Set(x, cell, 9) {
			t.Errorf("P11.1: Set(%d, %d)", x, cell)
		}
	}
	if st, ok := s.State(x); st != (state.State{}) || ok {
		t.Errorf("P11.1: State(%d): %d, %t", x, st, ok)
	}
	held(t, s, x, 0)
	if p := s.Pages(x); p != nil {
		t.Errorf("P11.1: Pages(%d): %d", x, p)
	}
	uses(t, s, used)
	lives(t, s, live)
}

func TestRooms(t *testing.T) {
	for n, pictures := range map[int]int{
		0: 0, 1: 1, 2: 2, 3: 3, 7: 7, 8: 8, 25: 25, 49: 49, 50: 50,
		51: 50, 52: 50, 64: 50, 90: 50, 200: 50, 256: 50, 257: 50, high: 50, 1 << 31: 50, 1 << 32: 50, 1<<32 + 1: 50,
		1<<61 + 1: 50, 1 << 62: 50, 1<<62 + 1: 50, 3<<61 + 2: 50, math.MaxInt - 1: 50, math.MaxInt: 50,
		-1: 0, -2: 0, -50: 0, -51: 0, -200: 0, low: 0, low - 1: 0, -1 << 32: 0, -1<<32 + 5: 0, -3<<61 + 7: 0, math.MinInt + 1: 0, math.MinInt: 0,
	} {
		s := New(n)
		if s == nil || s.Room() == nil {
			t.Fatalf("P11.1: New(%d): nil", n)
		}
		lives(t, s, nil)
		for k := range pictures {
			frees(t, s, 4*(pictures-k))
			makes(t, s, game(k))
		}
		frees(t, s, 0)
		makesNone(t, s)
		for k, x := range s.Live() {
			shows(t, s, x, game(k))
		}
	}
}

func TestMake(t *testing.T) {
	s := New(5)
	var all []int
	for _, st := range []state.State{{}, game(1), {0: low, 31: high}, {7: -1, 8: 1}, game(1)} {
		x := makes(t, s, st)
		all = append(all, s.Pages(x)...)
	}
	slices.Sort(all)
	if len(slices.Compact(all)) != 20 {
		t.Errorf("P11.1: the pages of 5 pictures: %d", all)
	}
}

// Of 3, 2, 1 and 0 pages that are free none is taken; of 4 all are.
func TestFewPages(t *testing.T) {
	s := New(2)
	a := makes(t, s, game(1))
	frees(t, s, 4)
	b := forks(t, s, a)
	for free := 3; free >= 0; free-- {
		sets(t, s, b, 8*free, -1)
		frees(t, s, free)
		makesNone(t, s)
	}
	// The second one's pages are its own: with it they are free again, all four.
	drops(t, s, b)
	frees(t, s, 4)
	c := makes(t, s, game(2))
	makesNone(t, s)
	drops(t, s, a)
	makes(t, s, game(3))
	shows(t, s, c, game(2))
	makesNone(t, s)
}

// A page that is taken again has nothing of the picture that was on it.
func TestPagesAgain(t *testing.T) {
	s := New(1)
	for k := range 20 {
		x := makes(t, s, game(k))
		makesNone(t, s)
		drops(t, s, x)
		var st state.State
		st[k] = -5
		x = makes(t, s, st)
		sets(t, s, x, 31-k, 6)
		drops(t, s, x)
		frees(t, s, 4)
	}
}

func TestNeverTwice(t *testing.T) {
	s := New(3)
	given := map[Snap]bool{}
	last := Snap(0)
	give := func(x Snap) {
		if given[x] || x < 1 {
			t.Fatalf("P11.1: the number %d", x)
		}
		given[x], last = true, x
	}
	for range 300 {
		give(makes(t, s, game(1)))
		x := last
		give(forks(t, s, x))
		drops(t, s, last)
		give(forks(t, s, x))
		drops(t, s, x)
		give(makes(t, s, game(2)))
		for _, y := range s.Live() {
			drops(t, s, y)
		}
		lives(t, s, nil)
	}
	for x := range given {
		notLive(t, s, x)
	}
}

func TestForks(t *testing.T) {
	s := New(1)
	a := makes(t, s, game(1))
	frees(t, s, 0)
	// No page is free, and none is needed.
	var all []Snap
	for n := 2; n <= 40; n++ {
		b := forks(t, s, a)
		all = append(all, b)
		for _, p := range s.Pages(a) {
			if got := s.Room().Refs(p); got != n {
				t.Errorf("P11.1: the page %d is held %d times by %d pictures", p, got, n)
			}
		}
	}
	c := forks(t, s, all[7])
	drops(t, s, a)
	for _, b := range all {
		shows(t, s, b, game(1))
		setsNot(t, s, b, 0)
		drops(t, s, b)
	}
	shows(t, s, c, game(1))
	sets(t, s, c, 0, 5)
	uses(t, s, 4)
}

// A fork of a picture that is held more than once is held once.
func TestForksOfHeldPictures(t *testing.T) {
	s := New(2)
	a := makes(t, s, game(1))
	for range 4 {
		holds(t, s, a)
	}
	b := forks(t, s, a)
	drops(t, s, b)
	held(t, s, a, 5)
	shows(t, s, a, game(1))
	c := forks(t, s, a)
	holds(t, s, c)
	held(t, s, a, 5)
	for range 5 {
		drops(t, s, a)
	}
	held(t, s, c, 2)
	shows(t, s, c, game(1))
	uses(t, s, 4)
}

func TestHolds(t *testing.T) {
	s := New(2)
	a, b := makes(t, s, game(1)), makes(t, s, game(2))
	for n := 2; n <= 1000; n++ {
		holds(t, s, a)
		held(t, s, a, n)
	}
	whole(t, s)
	held(t, s, b, 1)
	for n := 999; n >= 1; n-- {
		drops(t, s, a)
		held(t, s, a, n)
		lives(t, s, []Snap{a, b})
	}
	shows(t, s, a, game(1))
	drops(t, s, a)
	lives(t, s, []Snap{b})
	frees(t, s, 4)
	shows(t, s, b, game(2))
}

// It is others that a page is held by, not how often its picture is held: that is written without a copy.
func TestSetOfHeldPictures(t *testing.T) {
	s := New(1)
	a := makes(t, s, game(1))
	pages := s.Pages(a)
	for n := range 32 {
		holds(t, s, a)
		sets(t, s, a, n, int32(-n))
		paged(t, s, a, pages)
		held(t, s, a, n+2)
	}
	uses(t, s, 4)
	whole(t, s)
}

// The last Drop of a picture drops its pages, but those that another one has stay.
func TestLastDrops(t *testing.T) {
	s := New(3)
	a := makes(t, s, game(1))
	b := forks(t, s, a)
	sets(t, s, b, 20, 7)
	uses(t, s, 5)
	holds(t, s, b)
	drops(t, s, b)
	uses(t, s, 5)
	drops(t, s, b)
	uses(t, s, 4)
	shows(t, s, a, game(1))
	b = forks(t, s, a)
	sets(t, s, b, 20, 7)
	drops(t, s, a)
	uses(t, s, 4)
	want := game(1)
	want[20] = 7
	shows(t, s, b, want)
	drops(t, s, b)
	uses(t, s, 0)
	frees(t, s, 12)
	lives(t, s, nil)
}

// Set of a page that another picture has too: a copy of that page alone, once.
func TestSetOfSharedPages(t *testing.T) {
	for cell := range 32 {
		s := New(2)
		a := makes(t, s, game(1))
		b := forks(t, s, a)
		pages := s.Pages(a)
		sets(t, s, b, cell, -9)
		whole(t, s)
		uses(t, s, 5)
		shows(t, s, a, game(1))
		paged(t, s, a, pages)
		for part, p := range s.Pages(b) {
			if (p == pages[part]) != (part != cell/8) || (part == cell/8 && slices.Contains(pages, p)) {
				t.Errorf("P11.1: Set(%d, %d): the pages %d, of %d", b, cell, s.Pages(b), pages)
			}
		}
		mine := s.Pages(b)
		for i := cell / 8 * 8; i < cell/8*8+8; i++ {
			sets(t, s, b, i, int32(-i))
			// Its page is a's alone by now.
			sets(t, s, a, i, int32(i))
		}
		paged(t, s, a, pages)
		paged(t, s, b, mine)
		uses(t, s, 5)
		whole(t, s)
	}
}

// It is no matter which of them writes, and what: the same number is written to a copy too.
func TestSetByTheFirst(t *testing.T) {
	s := New(2)
	a := makes(t, s, game(1))
	b := forks(t, s, a)
	sets(t, s, a, 5, 106)
	uses(t, s, 5)
	shows(t, s, a, game(1))
	shows(t, s, b, game(1))
	sets(t, s, a, 5, 7)
	uses(t, s, 5)
	shows(t, s, b, game(1))
	c := forks(t, s, b)
	sets(t, s, b, 4, 50)
	uses(t, s, 6)
	shows(t, s, c, game(1))
	if v, ok := s.Get(a, 4); v != 105 || !ok {
		t.Errorf("P11.1: Get(%d, 4): %d, %t", a, v, ok)
	}
	whole(t, s)
}

func TestSetWithNoPageFree(t *testing.T) {
	s := New(1)
	a := makes(t, s, game(1))
	b := forks(t, s, a)
	for cell := range 32 {
		setsNot(t, s, a, cell)
		setsNot(t, s, b, cell)
		shows(t, s, a, game(1))
		shows(t, s, b, game(1))
	}
	// Of a page that is its own Set needs none that is free.
	drops(t, s, b)
	pages := s.Pages(a)
	for cell := range 32 {
		sets(t, s, a, cell, int32(cell))
	}
	paged(t, s, a, pages)
}

// A page of its own may be written with no page free, and one that is shared may not.
func TestSetOfOwnAndSharedPages(t *testing.T) {
	s := New(2)
	a := makes(t, s, game(1))
	b := forks(t, s, a)
	c := forks(t, s, a)
	for _, cell := range []int{3, 12, 30} {
		sets(t, s, b, cell, 5)
	}
	sets(t, s, c, 0, 6)
	frees(t, s, 0)
	setsNot(t, s, b, 16)
	setsNot(t, s, c, 8)
	setsNot(t, s, a, 31)
	for _, cell := range []int{0, 7, 8, 15, 24, 31} {
		sets(t, s, b, cell, low)
	}
	sets(t, s, c, 7, high)
	sets(t, s, a, 2, 1)
	whole(t, s)
	// b's page is free, and it is copied to.
	drops(t, s, b)
	frees(t, s, 3)
	sets(t, s, c, 31, 8)
	frees(t, s, 2)
	whole(t, s)
}

func TestCells(t *testing.T) {
	s := New(2)
	a, b := makes(t, s, game(1)), makes(t, s, game(2))
	for cell := range 32 {
		for _, v := range values {
			sets(t, s, a, cell, v)
		}
		sets(t, s, a, cell, int32(900+cell))
		for i := range 32 {
			want := int32(900 + i)
			if i > cell {
				want = int32(100 + i + 1)
			}
			if v, ok := s.Get(a, i); v != want || !ok {
				t.Errorf("P11.1: Get(%d, %d): %d, %t, not %d", a, i, v, ok, want)
			}
		}
	}
	shows(t, s, b, game(2))
}

func TestOtherCells(t *testing.T) {
	s := New(3)
	a := makes(t, s, game(1))
	b := forks(t, s, a)
	sets(t, s, b, 0, 1)
	want, _ := s.State(b)
	for _, cell := range far {
		for _, x := range []Snap{a, b} {
			if v, ok := s.Get(x, cell); v != 0 || ok {
				t.Errorf("P11.1: Get(%d, %d): %d, %t", x, cell, v, ok)
			}
			setsNot(t, s, x, cell)
		}
	}
	shows(t, s, a, game(1))
	shows(t, s, b, want)
	uses(t, s, 5)
}

func TestLive(t *testing.T) {
	s := New(50)
	var all []Snap
	for k := range 40 {
		all = append(all, makes(t, s, game(k)), forks(t, s, Snap(k/3+1)))
		lives(t, s, all)
	}
	if !slices.IsSorted(all) {
		t.Errorf("P11.1: Live: %d", all)
	}
	// Of both ends and of the middle one after the other goes.
	for len(all) > 0 {
		i := []int{0, len(all) - 1, len(all) / 2, len(all) / 3}[len(all)%4]
		drops(t, s, all[i])
		all = slices.Delete(all, i, i+1)
		lives(t, s, all)
	}
	frees(t, s, 200)
}

func TestHas(t *testing.T) {
	for _, s := range []*Store{New(0), New(3), New(50)} {
		free := 0
		for free < 300 && s.Has(free+1) {
			free++
		}
		for {
			frees(t, s, free)
			for _, n := range []int{math.MinInt, math.MinInt + 1, -1 << 32, low, -201, -1, 0, free} {
				if !s.Has(n) {
					t.Errorf("P11.1: Has(%d): false, with %d free", n, free)
				}
			}
			for _, n := range []int{free + 1, 201, 1000, high, 1 << 32, 1 << 61, 1 << 62, math.MaxInt - 1, math.MaxInt} {
				if s.Has(n) {
					t.Errorf("P11.1: Has(%d), with %d free", n, free)
				}
			}
			if free == 0 {
				break
			}
			makes(t, s, game(free))
			free -= 4
		}
	}
}

func TestWrongSnaps(t *testing.T) {
	wrong := []Snap{0, -1, -2, -4, 4, 5, 200, 1 << 31, 1 << 32, 1<<32 + 1, 1<<32 + 2, -1<<32 + 1, math.MinInt64, math.MinInt64 + 1, math.MaxInt64}
	s := New(3)
	for _, x := range append([]Snap{1, 2, 3}, wrong...) {
		notLive(t, s, x)
	}
	a := makes(t, s, game(1))
	b := forks(t, s, a)
	c := makes(t, s, game(2))
	drops(t, s, c)
	for _, x := range append([]Snap{a + b + c, -a, -b, c}, wrong...) {
		if x == a || x == b {
			continue
		}
		notLive(t, s, x)
	}
	shows(t, s, a, game(1))
	shows(t, s, b, game(1))
	uses(t, s, 4)
	whole(t, s)
	// A number that is no longer live stays so, though its pages are another one's by now.
	makes(t, s, game(3))
	notLive(t, s, c)
}

func TestNoStore(t *testing.T) {
	var none *Store
	for range 2 {
		for _, x := range []Snap{0, 1, 2, -1, math.MinInt64, math.MaxInt64} {
			notLive(t, none, x)
		}
		if x, ok := none.Make(game(1)); x != 0 || ok {
			t.Errorf("P11.1: Make of no store: %d, %t", x, ok)
		}
		if none.Live() != nil || none.Room() != nil {
			t.Errorf("P11.1: of no store: %d, %v", none.Live(), none.Room())
		}
		for _, n := range append([]int{0, 1, 4}, far...) {
			if none.Has(n) {
				t.Errorf("P11.1: Has(%d) of no store", n)
			}
		}
	}
}

// A Store that New did not make has room for no pictures.
func TestStoresWithoutRoom(t *testing.T) {
	for _, s := range []*Store{new(Store), New(0), New(-1)} {
		for range 2 {
			makesNone(t, s)
			frees(t, s, 0)
			notLive(t, s, 1)
			lives(t, s, nil)
		}
	}
}

// What is answered may be written into, its spare room too.
func TestAnswersApart(t *testing.T) {
	s := New(4)
	a := makes(t, s, game(1))
	b := forks(t, s, a)
	c := makes(t, s, game(2))
	pages, live := slices.Clone(s.Pages(a)), []Snap{a, b, c}
	for _, x := range live {
		mine, others := s.Pages(x), s.Pages(x)
		clear(mine[:cap(mine)])
		if slices.Contains(others, 0) {
			t.Errorf("P0.3: Pages(%d) told twice: %d", x, others)
		}
	}
	paged(t, s, a, pages)
	paged(t, s, b, pages)
	mine, others := s.Live(), s.Live()
	clear(mine[:cap(mine)])
	if !slices.Equal(others, live) {
		t.Errorf("P0.3: Live told twice: %d", others)
	}
	lives(t, s, live)
	st, _ := s.State(a)
	st[0] = -1
	shows(t, s, a, game(1))
	shows(t, s, b, game(1))
	shows(t, s, c, game(2))
	whole(t, s)
}

func TestStoresApart(t *testing.T) {
	a, b := New(2), New(2)
	x := makes(t, a, game(1))
	notLive(t, b, x)
	y := makes(t, b, game(2))
	if x != y {
		t.Errorf("P0.5: the first picture: %d and %d", x, y)
	}
	sets(t, a, x, 0, 9)
	shows(t, b, y, game(2))
	forks(t, a, x)
	held(t, b, y, 1)
	for _, p := range b.Pages(y) {
		if n := b.Room().Refs(p); n != 1 {
			t.Errorf("P11.1: the page %d is held %d times", p, n)
		}
	}
	drops(t, b, y)
	held(t, a, x, 1)
	uses(t, a, 4)
	uses(t, b, 0)
}

// leaf is a page of the second reading: who has it is told by their having it.
type leaf struct{ on [8]int32 }

// photo is a picture of the second reading.
type photo struct {
	refs int
	on   [4]*leaf
}

// reading is the chapter read once more: the live pictures by their numbers.
type reading struct {
	pages int
	given []Snap
	live  map[Snap]photo
}

// had is how many live pictures have each page.
func (r *reading) had() map[*leaf]int {
	n := map[*leaf]int{}
	for _, p := range r.live {
		for _, l := range p.on {
			n[l]++
		}
	}
	return n
}

func (r *reading) free() int { return r.pages - len(r.had()) }

func (r *reading) make(st state.State) (photo, bool) {
	if r.free() < 4 {
		return photo{}, false
	}
	p := photo{refs: 1}
	for i := range p.on {
		p.on[i] = &leaf{[8]int32(st[8*i:])}
	}
	return p, true
}

func (r *reading) fork(x Snap) (photo, bool) {
	p, ok := r.live[x]
	p.refs = min(p.refs, 1)
	return p, ok
}

// counted holds a picture once more, or (by -1) once less.
func (r *reading) counted(x Snap, by int) bool {
	p, ok := r.live[x]
	p.refs += by
	if ok {
		r.live[x] = p
	}
	if p.refs == 0 {
		delete(r.live, x)
	}
	return ok
}

func (r *reading) set(x Snap, cell int, v int32) bool {
	p, ok := r.live[x]
	if !ok || cell < 0 || cell > 31 {
		return false
	}
	if r.had()[p.on[cell/8]] > 1 {
		if r.free() < 1 {
			return false
		}
		p.on[cell/8] = &leaf{p.on[cell/8].on}
		r.live[x] = p
	}
	p.on[cell/8].on[cell%8] = v
	return true
}

// any is a number that was given, most often one that is live, or one that was not.
func (r *reading) any(n *noise, s *Store) Snap {
	live := s.Live()
	switch k := n.next(20); {
	case k < 2:
		return Snap(n.next(5) - 3)
	case k < 4 && len(r.given) > 0:
		return r.given[n.next(len(r.given))]
	case len(live) > 0:
		return live[n.next(len(live))]
	}
	return 1
}

// born enters a picture that the store told of, if the chapter has one there too.
func (r *reading) born(t *testing.T, x Snap, is bool, p photo, ok bool) {
	t.Helper()
	if is != ok || (x > 0) != ok || slices.Contains(r.given, x) {
		t.Errorf("P11.1: a new picture: %d, %t, not %t", x, is, ok)
		return
	}
	if ok {
		r.given = append(r.given, x)
		r.live[x] = p
	}
}

// call does one with both, and answers what it was.
func (r *reading) call(t *testing.T, n *noise, s *Store) string {
	t.Helper()
	x, cell, v := r.any(n, s), n.next(34)-1, values[n.next(len(values))]
	called, got, want := "", false, false
	switch n.next(10) {
	case 0:
		called = "Make"
		st := game(n.next(50))
		p, ok := r.make(st)
		y, is := s.Make(st)
		r.born(t, y, is, p, ok)
	case 1, 2:
		called = fmt.Sprint("Fork ", x)
		p, ok := r.fork(x)
		y, is := s.Fork(x)
		r.born(t, y, is, p, ok)
	case 3:
		called, got, want = fmt.Sprint("Hold ", x), s.Hold(x), r.counted(x, 1)
	case 4, 5:
		called, got, want = fmt.Sprint("Drop ", x), s.Drop(x), r.counted(x, -1)
	default:
		called, got, want = fmt.Sprint("Set ", x, cell, v), s.Set(x, cell, v), r.set(x, cell, v)
	}
	if got != want {
		t.Errorf("P11.1: %s: %t, not %t", called, got, want)
	}
	return called
}

// like holds all that can be asked of a store against the second reading.
func (r *reading) like(t *testing.T, s *Store) {
	t.Helper()
	var all []Snap
	at := map[*leaf]int{}
	for x, p := range r.live {
		all = append(all, x)
		held(t, s, x, p.refs)
		var st state.State
		for i, l := range p.on {
			copy(st[8*i:], l.on[:])
			n := s.Pages(x)[i]
			if at[l] != 0 && at[l] != n || s.Room().Refs(n) != r.had()[l] {
				t.Errorf("P11.1: the page %d of %d is held %d times, not %d", n, x, s.Room().Refs(n), r.had()[l])
			}
			at[l] = n
		}
		shows(t, s, x, st)
	}
	slices.Sort(all)
	lives(t, s, all)
	frees(t, s, r.free())
	uses(t, s, len(at))
	for _, x := range r.given[max(0, len(r.given)-5):] {
		if !slices.Contains(all, x) {
			held(t, s, x, 0)
			paged(t, s, x, nil)
		}
	}
	whole(t, s)
}

func TestAnyCalls(t *testing.T) {
	var seed noise = 2026
	for range 40 {
		n := seed.next(6)
		r := reading{pages: 4 * n, live: map[Snap]photo{}}
		s := New(n)
		for k := range 250 {
			called := r.call(t, &seed, s)
			r.like(t, s)
			if t.Failed() {
				t.Fatalf("P11.1: call %d of a store for %d: %s", k, n, called)
			}
		}
	}
}

// Told the same, two stores answer the same.
func TestAlike(t *testing.T) {
	told := func() string {
		var seed noise = 11
		s, all := New(4), ""
		for range 500 {
			x := Snap(seed.next(40))
			switch seed.next(5) {
			case 0:
				all += fmt.Sprint(s.Make(game(seed.next(9))))
			case 1:
				all += fmt.Sprint(s.Fork(x))
			case 2:
				all += fmt.Sprint(s.Drop(x))
			default:
				all += fmt.Sprint(s.Set(x, seed.next(32), 5))
			}
			all += fmt.Sprint(s.Live(), s.Pages(x))
		}
		return all
	}
	if told() != told() {
		t.Error("P0.5: two stores that were told the same")
	}
}
