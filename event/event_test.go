package event

import (
	"errors"
	"fmt"
	"math"
	"runtime"
	"testing"

	"quintain/api"
)

// far: numbers that are no Kind, no Player and no Frame, those too that come to one when they lose their upper bits.
var far = []int{
	math.MinInt, math.MinInt + 1, math.MinInt + 3, -1 << 40, -1<<32 + 1, -1 << 32, math.MinInt32, -1001, -1000, -256, -255, -253, -8, -7, -3, -2, -1,
	1001, 1002, 1023, 1024, 1027, 1 << 16, 1<<16 + 1, math.MaxInt32, 1 << 31, 1 << 32, 1<<32 + 1, 1<<32 + 2, 1<<32 + 3, 1<<40 + 7, math.MaxInt - 1, math.MaxInt,
}

// kinds: the words of the texts, by Kind.
var kinds = map[int]string{1: "quit", 2: "late", 3: "apart"}

// allRaws are the Raws that are an event's, each one of them.
func allRaws() []api.Raw {
	var all []api.Raw
	for player := range 8 {
		all = append(all, api.Raw{Kind: 1, Player: player}, api.Raw{Kind: 2, Player: player})
		for frame := range 1001 {
			all = append(all, api.Raw{Kind: 3, Player: player, Frame: frame})
		}
	}
	return all
}

// textOf is the chapter's text, put together by the library.
func textOf(r api.Raw) string {
	if r.Kind == 3 {
		return fmt.Sprintf("%s %d %d", kinds[r.Kind], r.Player, r.Frame)
	}
	return fmt.Sprintf("%s %d", kinds[r.Kind], r.Player)
}

// made is the event of r.
func made(t *testing.T, r api.Raw) Event {
	t.Helper()
	e, ok := Of(r)
	if !ok {
		t.Fatalf("P12.1: Of(%+v): false", r)
	}
	return e
}

// panics tells what MustFrame panics with; nil: it does not.
func panics(e Event) (what any) {
	defer func() { what = recover() }()
	MustFrame(e)
	return nil
}

// mustNot: MustFrame panics, as a type assertion does.
func mustNot(t *testing.T, e Event) {
	t.Helper()
	what := panics(e)
	if what == nil {
		t.Errorf("P12.1: MustFrame of %q does not panic", Text(e))
		return
	}
	err, _ := what.(error)
	if asserted := new(runtime.TypeAssertionError); !errors.As(err, &asserted) {
		t.Errorf("P12.1: MustFrame of %q panics of %v", Text(e), what)
	}
}

// tells: all that can be asked of the event of r.
func tells(t *testing.T, e Event, r api.Raw) {
	t.Helper()
	if got := e.Player(); got != r.Player {
		t.Errorf("P12.1: %+v: Player: %d", r, got)
	}
	if got := Raw(e); got != r {
		t.Errorf("P12.1: %+v: Raw: %+v", r, got)
	}
	if got := Text(e); got != textOf(r) {
		t.Errorf("P12.1: %+v: Text: %q", r, got)
	}
	if f, ok := Frame(e); f != r.Frame || ok != (r.Kind == 3) {
		t.Errorf("P12.1: %+v: Frame: %d, %t", r, f, ok)
	}
	if r.Kind != 3 {
		mustNot(t, e)
	} else if f := MustFrame(e); f != r.Frame {
		t.Errorf("P12.1: %+v: MustFrame: %d", r, f)
	}
}

// isNone: e is a zero Event, and answers as one.
func isNone(t *testing.T, e Event) {
	t.Helper()
	if e != (Event{}) {
		t.Errorf("P12.1: not a zero Event: %q", Text(e))
	}
	if got := e.Player(); got != 0 {
		t.Errorf("P12.1: a zero Event: Player: %d", got)
	}
	if got := Raw(e); got != (api.Raw{}) {
		t.Errorf("P12.1: a zero Event: Raw: %+v", got)
	}
	if f, ok := Frame(e); f != 0 || ok {
		t.Errorf("P12.1: a zero Event: Frame: %d, %t", f, ok)
	}
	if got := Text(e); got != "" {
		t.Errorf("P12.1: a zero Event: Text: %q", got)
	}
	mustNot(t, e)
}

// refused: r is no event's.
func refused(t *testing.T, r api.Raw) {
	t.Helper()
	e, ok := Of(r)
	if ok {
		t.Errorf("P12.1: Of(%+v): true", r)
	}
	isNone(t, e)
}

// The texts word for word, written out.
func TestKnownTexts(t *testing.T) {
	for text, r := range map[string]api.Raw{
		"quit 0":       {Kind: api.EQuit},
		"quit 3":       {Kind: api.EQuit, Player: 3},
		"quit 7":       {Kind: api.EQuit, Player: 7},
		"late 0":       {Kind: api.ELate},
		"late 3":       {Kind: api.ELate, Player: 3},
		"late 7":       {Kind: api.ELate, Player: 7},
		"apart 0 0":    {Kind: api.EApart},
		"apart 3 17":   {Kind: api.EApart, Player: 3, Frame: 17},
		"apart 7 1000": {Kind: api.EApart, Player: 7, Frame: 1000},
		"apart 1 10":   {Kind: api.EApart, Player: 1, Frame: 10},
		"apart 0 7":    {Kind: api.EApart, Frame: 7},
		"apart 7 0":    {Kind: api.EApart, Player: 7},
	} {
		if got := Text(made(t, r)); got != text {
			t.Errorf("P12.1: %+v: Text: %q, not %q", r, got, text)
		}
	}
}

func TestEachEvent(t *testing.T) {
	for _, r := range allRaws() {
		tells(t, made(t, r), r)
	}
}

func TestZeroEvent(t *testing.T) {
	var e Event
	isNone(t, e)
	isNone(t, Event{})
	isNone(t, *new(Event))
	for _, e := range make([]Event, 3) {
		isNone(t, e)
	}
	// No event is a zero one, that of noughts neither.
	for _, r := range []api.Raw{{Kind: 1}, {Kind: 2}, {Kind: 3}} {
		if made(t, r) == e {
			t.Errorf("P12.1: Of(%+v): a zero Event", r)
		}
	}
}

func TestOtherKinds(t *testing.T) {
	for _, kind := range append([]int{0, 4, 5, 6, 7, 8, 255, 256, 257, 258, 259}, far...) {
		for _, player := range []int{0, 3, 7, 8, -1} {
			for _, frame := range []int{0, 1, 1000, 1001, -1} {
				refused(t, api.Raw{Kind: kind, Player: player, Frame: frame})
			}
		}
	}
}

func TestOtherPlayers(t *testing.T) {
	for kind := range 5 {
		for _, player := range append([]int{8, 9, 15, 16, 32, 255, 256, 263, 1000}, far...) {
			for _, frame := range []int{0, 1, 17, 1000, 1001, -1} {
				refused(t, api.Raw{Kind: kind, Player: player, Frame: frame})
			}
		}
	}
}

func TestOtherFrames(t *testing.T) {
	for player := range 8 {
		for _, frame := range far {
			for kind := range 5 {
				refused(t, api.Raw{Kind: kind, Player: player, Frame: frame})
			}
		}
		// An EQuit and an ELate have no Frame, that of an EApart neither.
		for frame := 1; frame <= 1000; frame++ {
			refused(t, api.Raw{Kind: 1, Player: player, Frame: frame})
			refused(t, api.Raw{Kind: 2, Player: player, Frame: frame})
		}
	}
}

// Each number just within and just beyond its ends, of each Kind.
func TestEnds(t *testing.T) {
	for kind := -1; kind <= 4; kind++ {
		for player := -1; player <= 8; player++ {
			for _, frame := range []int{-1, 0, 1, 999, 1000, 1001} {
				r := api.Raw{Kind: kind, Player: player, Frame: frame}
				fits := 0 <= player && player <= 7 && (kind == 1 && frame == 0 || kind == 2 && frame == 0 || kind == 3 && 0 <= frame && frame <= 1000)
				if !fits {
					refused(t, r)
					continue
				}
				tells(t, made(t, r), r)
			}
		}
	}
}

// A copy tells the same, and stays when what it is of becomes another one.
func TestCopies(t *testing.T) {
	first := api.Raw{Kind: 3, Player: 5, Frame: 700}
	e := made(t, first)
	c := e
	for _, r := range []api.Raw{{Kind: 1, Player: 2}, {Kind: 2, Player: 6}, {Kind: 3, Player: 5, Frame: 701}} {
		e = made(t, r)
		tells(t, e, r)
		tells(t, c, first)
	}
	e = Event{}
	isNone(t, e)
	tells(t, c, first)
	c = e
	isNone(t, c)
}

func TestArrays(t *testing.T) {
	raws := [4]api.Raw{{Kind: 1, Player: 7}, {Kind: 2}, {Kind: 3, Player: 7, Frame: 1000}, {Kind: 3}}
	var kept [5]Event
	for i, r := range raws {
		kept[i] = made(t, r)
	}
	other := kept
	kept[0], kept[2] = kept[2], Event{}
	for i, r := range raws {
		tells(t, other[i], r)
	}
	isNone(t, other[4])
	tells(t, kept[0], raws[2])
	tells(t, kept[1], raws[1])
	isNone(t, kept[2])
	tells(t, kept[3], raws[3])
	isNone(t, kept[4])
}

// Many that are kept together stay each what it was.
func TestManyEvents(t *testing.T) {
	raws := allRaws()
	list := make([]Event, 0, len(raws))
	for _, r := range raws {
		list = append(list, made(t, r))
	}
	for i, r := range raws {
		tells(t, list[i], r)
	}
}

// P0.3: the Raw that an event was made of and those that it answers are the caller's.
func TestRawsAreTheCallers(t *testing.T) {
	r := api.Raw{Kind: 3, Player: 3, Frame: 17}
	e := made(t, r)
	r.Kind, r.Player, r.Frame = 1, 4, 0
	got := Raw(e)
	got.Kind, got.Player, got.Frame = 2, 6, 1
	tells(t, e, api.Raw{Kind: 3, Player: 3, Frame: 17})
}

// P0.5: what was asked and made ahead does not count.
func TestAskedAgain(t *testing.T) {
	r := api.Raw{Kind: 3, Player: 3, Frame: 17}
	e := made(t, r)
	for range 3 {
		tells(t, e, r)
		refused(t, api.Raw{Kind: 3, Player: 8, Frame: 17})
		mustNot(t, Event{})
		quit := made(t, api.Raw{Kind: 1, Player: 3})
		mustNot(t, quit)
		tells(t, quit, api.Raw{Kind: 1, Player: 3})
		tells(t, made(t, r), r)
	}
}
