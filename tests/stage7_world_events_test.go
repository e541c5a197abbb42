package tests

import (
	"math"
	"testing"

	"loop.example/hostel/impl"
)

// WorldBorn at each slot of each size of house, and at what is none.
func TestBorn(t *testing.T) {
	for _, c := range everyHouse() {
		if c.Lease != 7 {
			continue
		}
		for _, slot := range []int{math.MinInt, -1, 0, 1, 2, 3, 4, 5, 7, 8, 1 << 32, math.MaxInt} {
			for _, i := range []int{-1, 0, 5} { // of no matter here
				w := impl.WorldOpen(c)
				got := seeDo(t, "born", w, impl.WorldEvent{Kind: bornKind, N: slot, I: i, Call: 9, A: 9, B: 9})
				want := copyWorld(w)
				if between(slot, 0, c.Slots-1) {
					want.Guests = []impl.Guest{{Up: true, Slot: slot}}
				}
				if !sameWorld(got, want) {
					t.Errorf("%v, slot %d: %v", c, slot, got)
				}
			}
		}
	}
}

// The sixth guest and the seventh; who is dead counts.
func TestTheSeventhIsNotBorn(t *testing.T) {
	for many := range mostGuests + 1 {
		w := sceneWorld(somebody(many)...)
		got := seeDo(t, "born", w, bornAt(1))
		want := copyWorld(w)
		if many < mostGuests {
			want.Guests = append(want.Guests, impl.Guest{Up: true, Slot: 1})
		}
		if !sameWorld(got, want) {
			t.Errorf("behind %d: %v", many, got)
		}
	}
	w := impl.WorldOpen(deskHouse)
	for n := range 9 {
		w = seeDo(t, "born", w, bornAt(n%3))
		w = seeDo(t, "dies", w, diesOf(n))
		if len(w.Guests) != min(n+1, mostGuests) {
			t.Errorf("%d are born, and %d are there", n+1, len(w.Guests))
		}
	}
	for n, g := range w.Guests {
		if !sameGuest(g, impl.Guest{Slot: n % 3}) {
			t.Errorf("guest %d: %+v", n, g)
		}
	}
}

// WorldDies of each guest at each place: nothing else of it is another; and once
// more.
func TestDies(t *testing.T) {
	for pc := pcIdle; pc <= pcYield; pc++ {
		for i := range 3 {
			w := sceneWorld(guestAt(pc), guestAt(pc), guestAt(pc))
			got := seeDo(t, "dies", w, impl.WorldEvent{Kind: diesKind, I: i, N: 9, Call: 9, A: 9, B: 9})
			want := copyWorld(w)
			want.Guests[i].Up = false
			if !sameWorld(got, want) {
				t.Errorf("at %d: %+v", pc, got)
			}
			if again := seeDo(t, "dies again", got, diesOf(i)); !sameWorld(again, want) {
				t.Errorf("at %d: %+v", pc, again)
			}
		}
	}
}

// asking is what becomes of a guest that is asked: an answer at once, or a place
// at which it goes on (and then the code is no matter).
type asking struct {
	call int
	in   bool
	pc   int
	code int
}

// WorldAsks with each call and with what is none, of guests that are in and that
// are not.
func TestAsks(t *testing.T) {
	for _, s := range []asking{
		{enters, false, pcReg, 0}, {takes, false, 0, codeNobody}, {gives, false, 0, codeNobody},
		{hands, false, 0, codeNobody}, {leaves, false, 0, codeNobody}, {reaps, false, 0, codeNobody},
		{enters, true, 0, codeTaken}, {takes, true, pcBeat, 0}, {gives, true, pcBeat, 0},
		{hands, true, pcBeat, 0}, {leaves, true, pcBeat, 0}, {reaps, true, pcBeat, 0},
		{0, false, 0, codeNone}, {7, false, 0, codeNone}, {-1, true, 0, codeNone}, {0, true, 0, codeNone},
		{7, true, 0, codeNone}, {math.MaxInt, true, 0, codeNone}, {math.MinInt, false, 0, codeNone},
	} {
		g := impl.Guest{Up: true, Slot: 2, Code: 7, Val: 3, Count: 11}
		if s.in {
			g.Epoch = 4
		}
		w := sceneWorld(guestAt(pcSee), g, guestAt(pcIdle))
		got := seeDo(t, "asks", w, impl.WorldEvent{Kind: asksKind, I: 1, N: 77, Call: s.call, A: 5, B: 1})
		want := copyWorld(w)
		op := impl.BookOp{Kind: s.call, Slot: 2, A: 5, B: 1}
		if s.pc == pcIdle {
			want.Guests[1] = impl.Guest{Up: true, Slot: 2, Epoch: g.Epoch, Op: op, Code: s.code, Count: 12}
		} else {
			want.Guests[1].Busy, want.Guests[1].Pc, want.Guests[1].Op = true, s.pc, op
		}
		if !sameWorld(got, want) {
			t.Errorf("%+v: %+v", s, got.Guests[1])
		}
	}
}

// WorldAsks of who is busy, of who is dead, and of who has had all its answers.
func TestAsksInVain(t *testing.T) {
	for call := -1; call <= 8; call++ {
		for pc := pcBeat; pc <= pcYield; pc++ {
			w := sceneWorld(guestAt(pc))
			if got := seeDo(t, "busy", w, asksOf(0, call, 1, 1)); !sameWorld(got, w) {
				t.Errorf("at %d: %+v", pc, got)
			}
		}
		for why, g := range map[string]impl.Guest{
			"dead":           {Slot: 1},
			"dead, was in":   {Slot: 1, Epoch: 3, Code: 2, Val: 4, Count: 9},
			"has asked much": {Up: true, Slot: 1, Count: mostCount},
		} {
			w := sceneWorld(g)
			if got := seeDo(t, why, w, asksOf(0, call, 1, 1)); !sameWorld(got, w) {
				t.Errorf("%s: %+v", why, got)
			}
		}
	}
	w := sceneWorld(impl.Guest{Up: true, Slot: 2, Count: mostCount - 1})
	if got := seeDo(t, "the last time", w, asksOf(0, enters, 0, 0)); !got.Guests[0].Busy {
		t.Errorf("%+v", got.Guests[0])
	}
}

// waiting is a guest that waits at the door, of which slot 1 has the hold, and
// goes round by four places for ever: GuestDoor, GuestWatch, GuestHear, GuestTime.
func waiting() impl.World {
	w := sceneWorld(guestOf(1, 1), caller(pcDoor, nil))
	w.Words = words{2: doorOf(doorHeld, 1, 1, 20)}.in(w.Words)
	return w
}

// WorldSteps with each number, of a guest that never comes to its end.
func TestSoManySteps(t *testing.T) {
	places := []int{pcDoor, pcWatch, pcHear, pcTime}
	for n, steps := range map[int]int{
		math.MinInt: 0, -401: 0, -1: 0, 0: 0, 1: 1, 2: 2, 3: 3, 4: 4, 398: 398, 399: 399,
		400: 400, 401: 400, 402: 400, 403: 400, 1001: 400, 1 << 32: 400, math.MaxInt: 400,
	} {
		w := waiting()
		got := seeDo(t, "steps", w, impl.WorldEvent{Kind: stepsKind, I: 1, N: n, Call: 9, A: 9, B: 9})
		one := w
		for range steps {
			one, _ = impl.WorldOne(one, 1)
		}
		if !sameWorld(got, one) || got.Guests[1].Pc != places[steps%4] {
			t.Errorf("%d: at %d: %+v", n, got.Guests[1].Pc, got)
		}
	}
}

// alone is a world in which guest 0 is asked, and how many steps it takes to its
// answer.
func alone(t *testing.T, op impl.BookOp) (impl.World, int) {
	t.Helper()
	w := sceneWorld(guestOf(0, 2), comer(pcReg, nil))
	w = seeDo(t, "asks", w, asksOf(0, op.Kind, op.A, op.B))
	x, n := w, 0
	for x.Guests[0].Busy && n < 1000 {
		x, _ = modelOne(x, 0)
		n++
	}
	return w, n
}

// WorldSteps of a guest that is answered in the middle: it does nothing behind
// that, however many steps are left.
func TestStepsBehindAnAnswer(t *testing.T) {
	for _, op := range []impl.BookOp{{Kind: takes, A: 2}, {Kind: gives, A: 0}, {Kind: gives, A: 1}, {Kind: hands, A: 0, B: 1}, {Kind: leaves}, {Kind: reaps, A: 1}} {
		w, n := alone(t, op)
		if n < 50 || n > 100 {
			t.Fatalf("%v: %d steps", op, n)
		}
		for _, ahead := range []int{1, 2, n / 2} {
			got := seeDo(t, "ahead", w, stepsOf(0, n-ahead))
			if !got.Guests[0].Busy || got.Guests[0].Count != 11 {
				t.Errorf("%v: answered by %d steps", op, n-ahead)
			}
		}
		want := seeDo(t, "just", w, stepsOf(0, n))
		if want.Guests[0].Busy || want.Guests[0].Count != 12 || !sameGuest(want.Guests[1], w.Guests[1]) {
			t.Errorf("%v: not answered by %d steps: %+v", op, n, want.Guests[0])
		}
		for _, many := range []int{n + 1, n + 2, 2 * n, 399, 400, 401, math.MaxInt} {
			if got := seeDo(t, "behind", w, stepsOf(0, many)); !sameWorld(got, want) {
				t.Errorf("%v: %d steps: %+v", op, many, got)
			}
		}
		if got := seeDo(t, "once more", want, stepsOf(0, 400)); !sameWorld(got, want) {
			t.Errorf("%v: once more: %+v", op, got)
		}
	}
}

// WorldSteps of a guest that died at one of its steps: all stays as it was, for
// it; another one goes on.
func TestStepsOfTheDead(t *testing.T) {
	w, n := alone(t, impl.BookOp{Kind: takes, A: 2})
	for at := range n {
		dead := seeDo(t, "dies", w, diesOf(0))
		for _, many := range []int{1, 2, 400, 401} {
			if got := seeDo(t, "dead", dead, stepsOf(0, many)); !sameWorld(got, dead) {
				t.Errorf("dead at %d: %+v", at, got)
			}
		}
		if x := seeDo(t, "another one", dead, stepsOf(1, 400)); x.Guests[1].Epoch != 5 || x.Guests[0].Up {
			t.Errorf("dead at %d: %+v", at, x)
		}
		w = seeDo(t, "on", w, stepsOf(0, 1))
	}
	for pc := pcIdle; pc <= pcYield; pc++ {
		dead := sceneWorld(with(guestAt(pc), func(g *impl.Guest) { g.Up = false }))
		if got := seeDo(t, "dead", dead, stepsOf(0, 3)); !sameWorld(got, dead) {
			t.Errorf("dead at %d: %+v", pc, got)
		}
	}
}

// WorldTicks: the clock's value is so many more, to its end, and its stamp is
// kept.
func TestTicks(t *testing.T) {
	ends := map[int]int{math.MinInt: -1, -1000: -1, -1: -1, 0: 0, 1: 1, 2: 2, 999: 999, 1000: 1000, 1001: -1, 1002: -1, 1 << 32: -1, math.MaxInt: -1}
	for _, clock := range []int{0, 1, 50, 1047574, 1047575, 1047576, 1048573, 1048574, 1048575, 1048576, 1048577, 1 << 31, mostHalf - 1, mostHalf} {
		for _, stamp := range []int{0, 1, 77, mostHalf - 1, mostHalf} {
			for n, more := range ends {
				w := sceneWorld(guestAt(pcSee), impl.GuestNew(0))
				w.Words[1] = wordOf(clock, stamp)
				got := seeDo(t, "ticks", w, impl.WorldEvent{Kind: ticksKind, I: -1, N: n, Call: 9, A: 9, B: 9})
				want := copyWorld(w)
				if more >= 0 {
					want.Words[1] = wordOf(min(clock+more, 1048575), stamp)
				}
				if !sameWorld(got, want) {
					t.Errorf("%d ticks from %d: %x", n, clock, got.Words[1])
				}
			}
		}
	}
}

// A Kind that is none, whatever else the event has.
func TestNoKind(t *testing.T) {
	for _, kind := range []int{math.MinInt, -5, -1, 0, 6, 7, 100, 1 << 32, 1<<32 + 1, math.MaxInt} {
		for _, n := range []int{0, 1, 400} {
			w := sceneWorld(caller(pcBeat, nil), impl.GuestNew(2))
			e := impl.WorldEvent{Kind: kind, I: n % 2, N: n, Call: enters, A: 1, B: 1}
			if got := seeDo(t, "no kind", w, e); !sameWorld(got, w) {
				t.Errorf("%v: %+v", e, got)
			}
			if got := seeDo(t, "no kind", impl.WorldOpen(deskHouse), e); !sameWorld(got, impl.WorldOpen(deskHouse)) {
				t.Errorf("%v: %+v", e, got)
			}
		}
	}
	if got := seeDo(t, "nothing", sceneWorld(somebody(6)...), impl.WorldEvent{}); !sameWorld(got, sceneWorld(somebody(6)...)) {
		t.Errorf("%+v", got)
	}
}

// visit is events in which two guests come in, take, hand on and give back, one
// dies with the door in its hand, and the other one reaps it.
func visit() []impl.WorldEvent {
	return []impl.WorldEvent{
		bornAt(0), bornAt(1), bornAt(3),
		asksOf(0, enters, 0, 0), stepsOf(0, 400), asksOf(1, enters, 0, 0), stepsOf(1, 3), stepsOf(0, 5), stepsOf(1, 400),
		asksOf(0, takes, 3, 0), stepsOf(0, 400), ticksOf(1), asksOf(1, takes, 9, 0), stepsOf(1, 400),
		asksOf(0, hands, 0, 1), stepsOf(0, 60), asksOf(1, takes, 1, 0), stepsOf(1, 400), stepsOf(0, 400),
		asksOf(0, takes, 4, 0), stepsOf(0, 400), {}, asksOf(0, takes, 8, 0), stepsOf(0, 70), diesOf(0), stepsOf(0, 400),
		asksOf(1, reaps, 0, 0), stepsOf(1, 400), ticksOf(8), stepsOf(1, 400), stepsOf(1, 400),
		asksOf(1, reaps, 0, 0), stepsOf(1, 400), asksOf(1, reaps, 0, 0), stepsOf(1, 400), ticksOf(1001),
	}
}

// WorldPlay of a visit, in figures, at its ends and in between.
func TestAVisit(t *testing.T) {
	w := seePlay(t, "a visit", impl.WorldOpen(impl.PlatCfg{Slots: 2, Pages: 3, Lease: 4}), visit())
	if len(w.Guests) != 2 || w.Guests[0].Up || !w.Guests[0].Busy || w.Guests[1].Busy || valOf(w.Words[1]) != 9 {
		t.Fatalf("%+v", w)
	}
	if g := w.Guests[1]; g.Code != codeDone || g.Op.Kind != reaps || g.Epoch != 1 {
		t.Errorf("%+v", g)
	}
	b, ok := worldBook(t, w)
	if !ok || b.In[0] != out || b.In[1] != live || b.Owner[0] != 2 {
		t.Errorf("%v, %+v", ok, b)
	}
}

// WorldPlay of no events, of one, and of some, cut anywhere, held against WorldDo
// one by one.
func TestPlayedOneByOne(t *testing.T) {
	events := visit()
	open := impl.WorldOpen(impl.PlatCfg{Slots: 2, Pages: 3, Lease: 4})
	whole := seePlay(t, "whole", open, events)
	by := open
	for n := range events {
		first := seePlay(t, "the first of them", open, events[:n])
		if !sameWorld(first, by) {
			t.Errorf("%d played are not %d done", n, n)
		}
		if got := seePlay(t, "the others", first, events[n:]); !sameWorld(got, whole) {
			t.Errorf("cut at %d it is not the same", n)
		}
		by = seeDo(t, "one more", by, events[n])
		if one := seePlay(t, "one", first, events[n:n+1]); !sameWorld(one, by) {
			t.Errorf("event %d played alone: %+v", n, one)
		}
	}
	if !sameWorld(by, whole) || !sameWorld(worldPlay(t, whole, nil), whole) || !sameWorld(worldPlay(t, whole, []impl.WorldEvent{}), whole) {
		t.Error("the end is not the same")
	}
}

// A thousand events, and one more.
func TestSoManyEvents(t *testing.T) {
	w := sceneWorld(somebody(3)...)
	events := make([]impl.WorldEvent, 1002)
	for n := range events {
		events[n] = ticksOf(1)
	}
	for many, ticks := range map[int]int{0: 0, 1: 1, 999: 999, 1000: 1000} {
		got := seePlay(t, "so many", w, events[:many])
		if valOf(got.Words[1]) != 50+ticks || len(got.Guests) != 3 {
			t.Errorf("%d: %+v", many, got)
		}
	}
	for _, many := range []int{1001, 1002} {
		if got := worldPlay(t, w, events[:many]); !isNoWorld(got) {
			t.Errorf("%d: %+v", many, got)
		}
		if got := worldPlay(t, w, make([]impl.WorldEvent, many)); !isNoWorld(got) {
			t.Errorf("%d of no kind: %+v", many, got)
		}
		if got := worldPlay(t, impl.World{}, events[:many]); !isNoWorld(got) {
			t.Errorf("%d of no world: %+v", many, got)
		}
	}
}

// WorldBook at each step of a call: until the door is turned it is the book ahead
// of the call, and from then on the one behind it, whatever is carried out.
func TestBooksOfWorlds(t *testing.T) {
	before := bookAsItStands(t, scene())
	for _, op := range []impl.BookOp{{Kind: takes, A: 2}, {Kind: takes, A: 8}, {Kind: gives, A: 0}, {Kind: hands, A: 0, B: 1}} {
		w, n := alone(t, op)
		op.Slot = 0
		behind, code, _ := modelDo(before, op)
		if code != codeDone || alike(behind, before) {
			t.Fatalf("%v turns nothing", op)
		}
		want, steps := before, 0
		for range n {
			x, did := seeOne(t, "a step", w, 0)
			if did == didTurn {
				want = behind
			}
			if b, ok := worldBook(t, x); !ok || !alike(b, want) {
				t.Fatalf("%v, step %d: %v, %+v", op, steps, ok, b)
			}
			w, steps = x, steps+1
		}
		if !alike(want, behind) || w.Guests[0].Code != codeDone {
			t.Errorf("%v has not happened: %+v", op, w.Guests[0])
		}
	}
}

// bookAsItStands is the book of words on whose desks nothing is done.
func bookAsItStands(t *testing.T, w []uint64) impl.Book {
	t.Helper()
	b, ok := modelTrueBook(w)
	if !ok {
		t.Fatal("no book")
	}
	if got, ok := worldBook(t, impl.World{Words: w}); !ok || !alike(got, b) {
		t.Fatalf("%v, %+v", ok, got)
	}
	return b
}

// WorldBook where words stand for no book, but with what is done carried out do,
// and the other way round; and where a guest is not ok.
func TestWorldsWithoutABook(t *testing.T) {
	torn := words{tagAt(deskHouse, 1): wordOf(9, 3)}.in(scene())
	if b, ok := worldBook(t, impl.World{Words: torn}); ok || !isNothing(b) {
		t.Errorf("%+v", b)
	}
	done := words{2: doorOf(doorDone, 1, 1, 20), 68: wordOf(1, 20), 69: changeOf(tagAt(deskHouse, 1), 0, 20)}
	if b, ok := worldBook(t, impl.World{Words: done.in(torn), Guests: somebody(6)}); !ok || !alike(b, bookAsItStands(t, scene())) {
		t.Errorf("%v, %+v", ok, b)
	}
	done[69] = changeOf(tagAt(deskHouse, 1), 9, 20)
	if b, ok := worldBook(t, impl.World{Words: done.in(scene())}); ok || !isNothing(b) {
		t.Errorf("%+v", b)
	}
	if b, ok := worldBook(t, sceneWorld(impl.Guest{Slot: 3})); ok || !isNothing(b) {
		t.Errorf("a guest of no slot: %+v", b)
	}
	if b, ok := worldBook(t, sceneWorld(somebody(7)...)); ok || !isNothing(b) {
		t.Errorf("seven guests: %+v", b)
	}
}
