package page

import (
	"fmt"
	"math"
	"testing"
)

const (
	low  = math.MinInt32
	high = math.MaxInt32
)

// values: at the ends of 32 bits and of each of their bytes.
var values = []int32{
	0, 1, -1, 2, -2, 127, 128, 255, 256, -128, -129, -255, -256, 32767, 32768, 65535, 65536, -32768, -32769, -65536,
	1<<24 - 1, 1 << 24, -1 << 24, 0x01020304, 0x7f80ff00, low, low + 1, high - 1, high,
}

// far: numbers that are no page's of any room and no number's of any page, those too that come to one when they wrap or lose their upper bits.
var far = []int{
	-1, -2, -3, -7, -8, -9, -199, -200, -201, -255, -256, low, low - 1, low + 1, -1 << 32, -1<<32 + 1, -1 << 40, -1 << 61, -1<<61 + 1,
	math.MinInt, math.MinInt + 1, math.MinInt + 2, 201, 202, 255, 256, 257, 259, 1000, 1 << 16, 1<<16 + 1, high, 1 << 31, 1<<31 + 1,
	1 << 32, 1<<32 + 1, 1<<32 + 3, 1 << 60, 1<<60 + 1, 1 << 61, 1<<61 + 1, 1<<62 + 1, 3 << 61, 3<<61 + 1, math.MaxInt - 1, math.MaxInt,
}

// noise gives numbers without a pattern that is short, always the same of one seed.
type noise uint32

func (n *noise) next(below int) int {
	*n = 1664525**n + 1013904223
	return int(uint64(*n^*n>>13) * uint64(below) >> 32)
}

// full is a room of n pages, each taken, with the number 100 p + i at the place i of the page p.
func full(t *testing.T, n int) *Room {
	t.Helper()
	r := New(n)
	for p := 1; p <= n; p++ {
		takes(t, r, p)
		for i := range 8 {
			sets(t, r, p, i, int32(100*p+i))
		}
	}
	return r
}

// takes: the next page is p (0: there is none), of zeros and held once.
func takes(t *testing.T, r *Room, p int) {
	t.Helper()
	used := r.Used()
	got, ok := r.Take()
	if got != p || ok != (p > 0) {
		t.Fatalf("P10.1: Take: %d, %t, not %d", got, ok, p)
	}
	if !ok {
		uses(t, r, used)
		return
	}
	uses(t, r, used+1)
	held(t, r, p, 1)
	reads(t, r, p, [8]int32{})
}

// copies: the copy of p is c (0: there is none), with p's numbers and held once.
func copies(t *testing.T, r *Room, p, c int) {
	t.Helper()
	used, refs, on := r.Used(), r.Refs(p), listed(r, p)
	got, ok := r.Copy(p)
	if got != c || ok != (c > 0) {
		t.Fatalf("P10.1: Copy(%d): %d, %t, not %d", p, got, ok, c)
	}
	held(t, r, p, refs)
	if !ok {
		uses(t, r, used)
		return
	}
	uses(t, r, used+1)
	held(t, r, c, 1)
	reads(t, r, p, on)
	reads(t, r, c, on)
}

// listed is what stands on a page.
func listed(r *Room, p int) [8]int32 {
	var on [8]int32
	for i := range on {
		on[i], _ = r.Get(p, i)
	}
	return on
}

func reads(t *testing.T, r *Room, p int, want [8]int32) {
	t.Helper()
	for i, w := range want {
		if v, ok := r.Get(p, i); v != w || !ok {
			t.Errorf("P10.1: Get(%d, %d): %d, %t, not %d", p, i, v, ok, w)
		}
	}
}

func sets(t *testing.T, r *Room, p, i int, v int32) {
	t.Helper()
	if !r.Set(p, i, v) {
		t.Errorf("P10.1: Set(%d, %d, %d): false", p, i, v)
	}
	if got, ok := r.Get(p, i); got != v || !ok {
		t.Errorf("P10.1: Get(%d, %d): %d, %t, behind Set of %d", p, i, got, ok, v)
	}
}

func holds(t *testing.T, r *Room, p int) {
	t.Helper()
	refs := r.Refs(p)
	if !r.Hold(p) {
		t.Errorf("P10.1: Hold(%d): false", p)
	}
	held(t, r, p, refs+1)
}

func drops(t *testing.T, r *Room, p int) {
	t.Helper()
	refs := r.Refs(p)
	if !r.Drop(p) {
		t.Errorf("P10.1: Drop(%d): false", p)
	}
	held(t, r, p, refs-1)
}

func held(t *testing.T, r *Room, p, want int) {
	t.Helper()
	if got := r.Refs(p); got != want {
		t.Errorf("P10.1: Refs(%d): %d, not %d", p, got, want)
	}
}

func uses(t *testing.T, r *Room, want int) {
	t.Helper()
	if got := r.Used(); got != want {
		t.Errorf("P10.1: Used: %d, not %d", got, want)
	}
}

// unused: p answers 0, false to all calls, and none of them changes the room.
func unused(t *testing.T, r *Room, p int) {
	t.Helper()
	used := r.Used()
	if r.Hold(p) {
		t.Errorf("P10.1: Hold(%d)", p)
	}
	if r.Drop(p) {
		t.Errorf("P10.1: Drop(%d)", p)
	}
	held(t, r, p, 0)
	for i := range 8 {
		if v, ok := r.Get(p, i); v != 0 || ok {
			t.Errorf("P10.1: Get(%d, %d): %d, %t", p, i, v, ok)
		}
		if r.Set(p, i, 9) {
			t.Errorf("P10.1: Set(%d, %d)", p, i)
		}
	}
	if c, ok := r.Copy(p); c != 0 || ok {
		t.Errorf("P10.1: Copy(%d): %d, %t", p, c, ok)
	}
	held(t, r, p, 0)
	uses(t, r, used)
}

func TestRooms(t *testing.T) {
	for n, pages := range map[int]int{
		0: 0, 1: 1, 2: 2, 3: 3, 4: 4, 7: 7, 8: 8, 9: 9, 63: 63, 64: 64, 65: 65, 100: 100, 127: 127, 128: 128, 199: 199, 200: 200,
		201: 200, 202: 200, 255: 200, 256: 200, 257: 200, 1000: 200, high: 200, high + 1: 200, 1 << 32: 200, 1<<32 + 1: 200, math.MaxInt - 1: 200, math.MaxInt: 200,
		-1: 0, -2: 0, -200: 0, -201: 0, -256: 0, low: 0, low - 1: 0, -1 << 32: 0, -1<<32 + 5: 0, math.MinInt + 1: 0, math.MinInt: 0,
	} {
		r := New(n)
		if r == nil {
			t.Fatalf("P10.1: New(%d): nil", n)
		}
		for p := range pages + 2 {
			unused(t, r, p)
		}
		for p := range pages {
			takes(t, r, p+1)
		}
		takes(t, r, 0)
		unused(t, r, pages+1)
		for p := range pages {
			held(t, r, p+1, 1)
			copies(t, r, p+1, 0)
		}
		takes(t, r, 0)
		uses(t, r, pages)
	}
}

// The least page is taken that is not in use, whatever was dropped last.
func TestTheLeastPage(t *testing.T) {
	r := full(t, 9)
	for _, p := range []int{7, 2, 9, 4} {
		drops(t, r, p)
		unused(t, r, p)
	}
	uses(t, r, 5)
	takes(t, r, 2)
	takes(t, r, 4)
	drops(t, r, 1)
	takes(t, r, 1)
	copies(t, r, 3, 7)
	drops(t, r, 5)
	copies(t, r, 3, 5)
	takes(t, r, 9)
	takes(t, r, 0)
	copies(t, r, 3, 0)
	uses(t, r, 9)
}

// Each page dropped alone, of a room that is full, is the next one.
func TestEachPageAgain(t *testing.T) {
	for _, n := range []int{1, 2, 5, 64, 200} {
		r := full(t, n)
		for p := n; p >= 1; p-- {
			drops(t, r, p)
			unused(t, r, p)
			uses(t, r, n-1)
			takes(t, r, p)
			drops(t, r, p)
			if p < n {
				copies(t, r, p+1, p)
			} else {
				takes(t, r, p)
			}
		}
	}
}

func TestAllDropped(t *testing.T) {
	r := full(t, 200)
	for p := 200; p >= 1; p-- {
		drops(t, r, p)
		uses(t, r, p-1)
	}
	for p := range 202 {
		unused(t, r, p)
	}
	for p := range 200 {
		takes(t, r, p+1)
	}
	takes(t, r, 0)
}

func TestHolds(t *testing.T) {
	r := full(t, 3)
	for n := 2; n <= 1000; n++ {
		holds(t, r, 2)
		held(t, r, 2, n)
		uses(t, r, 3)
	}
	held(t, r, 1, 1)
	held(t, r, 3, 1)
	for n := 999; n >= 1; n-- {
		drops(t, r, 2)
		held(t, r, 2, n)
		uses(t, r, 3)
		takes(t, r, 0)
	}
	reads(t, r, 2, [8]int32{200, 201, 202, 203, 204, 205, 206, 207})
	drops(t, r, 2)
	uses(t, r, 2)
	unused(t, r, 2)
	takes(t, r, 2)
}

// A page that is held more than once is read alone; with one hold it is written again.
func TestHeldPages(t *testing.T) {
	r := full(t, 2)
	on := listed(r, 1)
	for n := 2; n <= 70; n++ {
		holds(t, r, 1)
		for i := range 8 {
			if r.Set(1, i, -7) {
				t.Errorf("P10.1: Set(1, %d) of a page that is held %d times", i, n)
			}
		}
		reads(t, r, 1, on)
		sets(t, r, 2, 0, int32(n))
	}
	for n := 69; n >= 1; n-- {
		drops(t, r, 1)
		if ok := r.Set(1, 3, int32(-n)); ok != (n == 1) {
			t.Errorf("P10.1: Set of a page that is held %d times: %t", n, ok)
		}
	}
	on[3] = -1
	reads(t, r, 1, on)
}

// A page that is taken again has nothing of what stood on it, however it was dropped.
func TestTakenAgain(t *testing.T) {
	r := full(t, 3)
	for _, times := range []int{1, 2, 3, 50} {
		for i := range 8 {
			sets(t, r, 2, i, values[i+times%20])
		}
		for range times - 1 {
			holds(t, r, 2)
		}
		for range times {
			drops(t, r, 2)
		}
		unused(t, r, 2)
		takes(t, r, 2)
	}
	// Of a page that had other numbers, a copy has none but its own.
	drops(t, r, 1)
	copies(t, r, 2, 1)
	reads(t, r, 1, [8]int32{})
	reads(t, r, 3, [8]int32{300, 301, 302, 303, 304, 305, 306, 307})
}

func TestNumbers(t *testing.T) {
	r := full(t, 5)
	for p := 1; p <= 5; p++ {
		for i := range 8 {
			for _, v := range values {
				sets(t, r, p, i, v)
			}
			sets(t, r, p, i, int32(1000*p+i))
		}
	}
	for p := 1; p <= 5; p++ {
		for i := range 8 {
			if v, ok := r.Get(p, i); v != int32(1000*p+i) || !ok {
				t.Errorf("P10.1: Get(%d, %d): %d, %t", p, i, v, ok)
			}
		}
	}
}

func TestOtherNumbers(t *testing.T) {
	r := full(t, 3)
	for _, i := range append([]int{8, 9, 10, 15, 16, 24, 31, 32, 64, 128}, far...) {
		for p := 1; p <= 3; p++ {
			if v, ok := r.Get(p, i); v != 0 || ok {
				t.Errorf("P10.1: Get(%d, %d): %d, %t", p, i, v, ok)
			}
			if r.Set(p, i, -1) {
				t.Errorf("P10.1: Set(%d, %d)", p, i)
			}
		}
		for _, p := range []int{0, 4, i} {
			if v, ok := r.Get(p, i); v != 0 || ok || r.Set(p, i, -1) {
				t.Errorf("P10.1: Get(%d, %d): %d, %t", p, i, v, ok)
			}
		}
	}
	for p := 1; p <= 3; p++ {
		reads(t, r, p, [8]int32{int32(100 * p), int32(100*p + 1), int32(100*p + 2), int32(100*p + 3), int32(100*p + 4), int32(100*p + 5), int32(100*p + 6), int32(100*p + 7)})
	}
}

func TestOtherPages(t *testing.T) {
	for _, n := range []int{0, 1, 3, 8, 200} {
		for _, p := range append([]int{0, n + 1, n + 2, -n}, far...) {
			if 1 <= p && p <= n {
				continue
			}
			unused(t, New(n), p)
			r := full(t, n)
			unused(t, r, p)
			uses(t, r, n)
			for k := 1; k <= n; k++ {
				held(t, r, k, 1)
			}
			if n > 0 {
				reads(t, r, n, listed(full(t, n), n))
				// There is a page free: it is the number alone that is no page's.
				drops(t, r, n)
				unused(t, r, p)
			}
		}
	}
}

func TestCopies(t *testing.T) {
	r := New(4)
	takes(t, r, 1)
	on := [8]int32{low, -1, 0, 1, high, 7, -8, 9}
	for i, v := range on {
		sets(t, r, 1, i, v)
	}
	copies(t, r, 1, 2)
	copies(t, r, 2, 3)
	// Each goes its own way.
	sets(t, r, 2, 0, 5)
	sets(t, r, 1, 7, 6)
	reads(t, r, 1, [8]int32{low, -1, 0, 1, high, 7, -8, 6})
	reads(t, r, 2, [8]int32{5, -1, 0, 1, high, 7, -8, 9})
	reads(t, r, 3, on)
	// With its page dropped a copy stays, and so does the page with the copy dropped.
	drops(t, r, 1)
	reads(t, r, 3, on)
	copies(t, r, 3, 1)
	drops(t, r, 3)
	reads(t, r, 1, on)
	unused(t, r, 3)
	copies(t, r, 2, 3)
	copies(t, r, 2, 4)
	copies(t, r, 2, 0)
	for p := range 5 {
		held(t, r, p, min(p, 1))
	}
}

// A copy of a page that is held more than once is held once, and may be written.
func TestCopiesOfHeldPages(t *testing.T) {
	r := full(t, 1)
	copies(t, r, 1, 0)
	r = New(3)
	takes(t, r, 1)
	sets(t, r, 1, 4, 44)
	for range 5 {
		holds(t, r, 1)
	}
	copies(t, r, 1, 2)
	held(t, r, 1, 6)
	sets(t, r, 2, 4, 45)
	if r.Set(1, 4, 46) {
		t.Error("P10.1: Set of a page that is held 6 times")
	}
	reads(t, r, 1, [8]int32{4: 44})
	holds(t, r, 2)
	held(t, r, 1, 6)
	copies(t, r, 2, 3)
	reads(t, r, 3, [8]int32{4: 45})
	copies(t, r, 1, 0)
	held(t, r, 2, 2)
}

// No page is free and the page is not in use: it is 0, false for either cause.
func TestCopiesOfNothing(t *testing.T) {
	r := full(t, 2)
	for _, p := range append([]int{0, 3}, far...) {
		copies(t, r, p, 0)
	}
	drops(t, r, 1)
	for _, p := range append([]int{0, 1, 3}, far...) {
		copies(t, r, p, 0)
	}
	uses(t, r, 1)
	takes(t, r, 1)
}

func TestNoRoom(t *testing.T) {
	// A Room that New did not make has no pages.
	for _, r := range []*Room{nil, new(Room), New(0), New(-1)} {
		for range 2 {
			takes(t, r, 0)
			uses(t, r, 0)
			for _, p := range append([]int{0, 1, 2, 200}, far...) {
				unused(t, r, p)
				for _, i := range far {
					if v, ok := r.Get(p, i); v != 0 || ok || r.Set(p, i, 1) {
						t.Errorf("P10.1: Get(%d, %d) of no room: %d, %t", p, i, v, ok)
					}
				}
			}
		}
	}
}

func TestRoomsApart(t *testing.T) {
	a, b := full(t, 3), New(3)
	uses(t, b, 0)
	takes(t, b, 1)
	holds(t, b, 1)
	drops(t, a, 2)
	held(t, a, 1, 1)
	held(t, b, 1, 2)
	reads(t, b, 1, [8]int32{})
	takes(t, b, 2)
	sets(t, b, 2, 0, 9)
	takes(t, a, 2)
	reads(t, b, 2, [8]int32{9})
	takes(t, New(3), 1)
}

// paper is a page of the second reading.
type paper struct {
	refs int
	on   [8]int32
}

// reading is the chapter read once more: the pages that are in use, by their numbers.
type reading struct {
	pages int
	used  map[int]paper
}

func (x *reading) take(on [8]int32) (int, bool) {
	for p := 1; p <= x.pages; p++ {
		if _, ok := x.used[p]; !ok {
			x.used[p] = paper{1, on}
			return p, true
		}
	}
	return 0, false
}

func (x *reading) copied(p int) (int, bool) {
	if s, ok := x.used[p]; ok {
		return x.take(s.on)
	}
	return 0, false
}

// counted holds a page once more, or (by -1) once less.
func (x *reading) counted(p, by int) bool {
	s, ok := x.used[p]
	s.refs += by
	if ok {
		x.used[p] = s
	}
	if s.refs == 0 {
		delete(x.used, p)
	}
	return ok
}

func (x *reading) set(p, i int, v int32) bool {
	s := x.used[p]
	if s.refs != 1 || i < 0 || i > 7 {
		return false
	}
	s.on[i] = v
	x.used[p] = s
	return true
}

// told does a call with both, and answers what it was and what they said.
func (x *reading) told(n *noise, r *Room) (call, got, want string) {
	p, i, v := n.next(x.pages+3)-1, n.next(10)-1, values[n.next(len(values))]
	switch n.next(9) {
	case 0, 1:
		return "Take", fmt.Sprint(r.Take()), fmt.Sprint(x.take([8]int32{}))
	case 2:
		return fmt.Sprint("Hold ", p), fmt.Sprint(r.Hold(p)), fmt.Sprint(x.counted(p, 1))
	case 3, 4:
		return fmt.Sprint("Drop ", p), fmt.Sprint(r.Drop(p)), fmt.Sprint(x.counted(p, -1))
	case 5:
		return fmt.Sprint("Copy ", p), fmt.Sprint(r.Copy(p)), fmt.Sprint(x.copied(p))
	default:
		return fmt.Sprint("Set ", p, i, v), fmt.Sprint(r.Set(p, i, v)), fmt.Sprint(x.set(p, i, v))
	}
}

// like holds all that can be asked of a room against the second reading.
func (x *reading) like(t *testing.T, r *Room) {
	t.Helper()
	uses(t, r, len(x.used))
	for p := -1; p <= x.pages+2; p++ {
		s, in := x.used[p]
		held(t, r, p, s.refs)
		for i := -1; i <= 8; i++ {
			want, ok := int32(0), in && 0 <= i && i < 8
			if ok {
				want = s.on[i]
			}
			if v, is := r.Get(p, i); v != want || is != ok {
				t.Errorf("P10.1: Get(%d, %d): %d, %t, not %d, %t", p, i, v, is, want, ok)
			}
		}
	}
}

func TestAnyCalls(t *testing.T) {
	var seed noise = 2026
	for range 60 {
		x := reading{pages: seed.next(12), used: map[int]paper{}}
		r := New(x.pages)
		for k := range 400 {
			call, got, want := x.told(&seed, r)
			if got != want {
				t.Errorf("P10.1: call %d of a room of %d: %s: %s, not %s", k, x.pages, call, got, want)
			}
			x.like(t, r)
			if t.Failed() {
				return
			}
		}
	}
}
