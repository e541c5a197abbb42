package tests

import (
	"runtime"
	"slices"
	"sync"
	"testing"

	"loop.example/hostel/impl"
)

// chronicle is a world, what has happened there, and the plain book of that, which
// is asked for P19 and P20 behind each event.
type chronicle struct {
	w    impl.World
	b    impl.Book
	list []impl.TaleItem
	// since is where in the list the call of each guest was asked for.
	since [mostGuests]int
	met   map[int]int
	// What there was when it was last looked at as a whole, and all events since.
	fromW  impl.World
	fromB  impl.Book
	from   int
	events []impl.WorldEvent
}

func chronicleOf(t *testing.T, w impl.World) *chronicle {
	t.Helper()
	b, ok := impl.WorldBook(w)
	if !ok {
		t.Fatalf("a world without a book: %+v", w)
	}
	return &chronicle{w: w, b: b, fromW: w, fromB: b, met: map[int]int{}}
}

// happens lets something happen, and holds the book behind what has happened by
// it against the true book of the world.
func (x *chronicle) happens(t *testing.T, e impl.WorldEvent) {
	t.Helper()
	was := x.w
	list := impl.TalePlay(was, []impl.WorldEvent{e})
	x.w = impl.WorldDo(was, e)
	b, said := impl.TaleBook(x.b, list)
	stands, ok := impl.WorldBook(x.w)
	if !said || !ok || !alike(b, stands) {
		t.Fatalf("%+v: has happened %+v: said %v, the book %+v\nthe true book %v, %+v", e, list, said, b, ok, stands)
	}
	x.seeWho(t, was, e, list)
	if e.Kind == asksKind && between(e.I, 0, len(was.Guests)-1) && !was.Guests[e.I].Busy {
		x.since[e.I] = len(x.list)
	}
	x.b, x.events, x.list = b, append(x.events, e), append(x.list, list...)
	for i, g := range was.Guests {
		x.seeCall(t, i, g)
	}
}

// seeWho asks that things happen by steps alone, and by who is up and busy; and
// that who is cut off was in.
func (x *chronicle) seeWho(t *testing.T, was impl.World, e impl.WorldEvent, list []impl.TaleItem) {
	t.Helper()
	for _, item := range list {
		if e.Kind != stepsKind || item.Guest != e.I || !was.Guests[e.I].Up || !was.Guests[e.I].Busy {
			t.Fatalf("%+v: has happened %+v", e, list)
		}
		if item.Cut {
			x.met[500+x.b.In[item.Op.Slot]]++
		} else {
			x.met[300+item.Code]++
		}
	}
}

// seeCall asks of a guest's call, from its asking on: it happens once at most; if
// it is answered with BookDone or BookMore it has happened; and if it has happened
// it is answered with what the book said.
func (x *chronicle) seeCall(t *testing.T, i int, was impl.Guest) {
	t.Helper()
	g := x.w.Guests[i]
	calls := impl.TaleOf(x.list[x.since[i]:], i)
	if len(calls) > 1 || len(calls) == 1 && calls[0].Op != g.Op {
		t.Fatalf("guest %d has asked for %v, and has happened %v", i, g.Op, calls)
	}
	if g.Count == was.Count {
		return
	}
	x.met[100+g.Code]++
	if len(calls) == 1 {
		if calls[0].Code != g.Code || calls[0].Val != g.Val {
			t.Fatalf("guest %d was told %d, %d, and has happened %v", i, g.Code, g.Val, calls)
		}
		return
	}
	if !slices.Contains([]int{codeFenced, codeWorn, codeWhom, codeNobody, codeLives, codeNone, codeTaken}, g.Code) || g.Val != 0 {
		t.Fatalf("guest %d was told %d, %d, and its call %v has not happened", i, g.Code, g.Val, g.Op)
	}
}

// whole plays all that has happened since the last time at once: it is the same
// tale, and the same book behind it; and each guest's part of it.
func (x *chronicle) whole(t *testing.T) {
	t.Helper()
	want := x.list[x.from:]
	list := talePlay(t, x.fromW, x.events)
	if !slices.Equal(list, want) {
		t.Fatalf("at once: %+v\nnot %+v", list, want)
	}
	if b, said := taleBook(t, x.fromB, list); !said || !alike(b, x.b) {
		t.Fatalf("at once: %v, %+v\nnot %+v", said, b, x.b)
	}
	if b, ok := impl.WorldBook(impl.WorldPlay(x.fromW, x.events)); !ok || !alike(b, x.b) {
		t.Fatalf("at once: %v, %+v\nnot %+v", ok, b, x.b)
	}
	for i := range mostGuests {
		if got, want := taleOf(t, list, i), modelTaleOf(want, i); !slices.Equal(got, want) {
			t.Fatalf("guest %d: %v, not %v", i, got, want)
		}
	}
	x.fromW, x.fromB, x.from, x.events = x.w, x.b, len(x.list), nil
}

// newcomers puts others in the places of who is dead, and of who was fenced.
func (x *chronicle) newcomers(t *testing.T, d *dice) {
	t.Helper()
	x.whole(t)
	c, _ := modelHouse(x.w.Words)
	x.w = copyWorld(x.w)
	for i, g := range x.w.Guests {
		if !g.Up || !g.Busy && g.Code == codeFenced {
			x.w.Guests[i], x.since[i] = impl.GuestNew(d.below(c.Slots)), len(x.list)
		}
	}
	x.fromW = x.w
}

// word is the next thing of a walk: mostly a single word of somebody.
func (x *chronicle) word(d *dice) impl.WorldEvent {
	c, _ := modelHouse(x.w.Words)
	if len(x.w.Guests) < 2 || len(x.w.Guests) < mostGuests && d.below(60) == 0 {
		return bornAt(d.below(c.Slots))
	}
	i := d.below(len(x.w.Guests))
	switch roll := d.below(1200); {
	case roll == 0:
		return diesOf(i)
	case roll < 12:
		return ticksOf(1 + d.below(c.Lease+1))
	}
	// Who is dead, has no place or was fenced is let or asked in vain, seldom.
	g := x.w.Guests[i]
	vain := !g.Up || !g.Busy && (g.Code == codeFenced || g.Epoch == 0 && x.b.In[g.Slot] != out)
	if vain && d.below(60) > 0 {
		busy := slices.IndexFunc(x.w.Guests, func(g impl.Guest) bool { return g.Up && g.Busy })
		return stepsOf(max(busy, 0), 1+d.below(20))
	}
	if g.Busy || !g.Up {
		return stepsOf(i, 1+d.below(4)/3*d.below(30))
	}
	return x.call(d, i)
}

// call is that an idle guest asks for something: to come in, if it is not; often
// to reap who is cut off, and to give or to hand what it has.
func (x *chronicle) call(d *dice, i int) impl.WorldEvent {
	g := x.w.Guests[i]
	if g.Epoch == 0 {
		return asksOf(i, enters, 0, 0)
	}
	op := d.anyOp(x.b)
	rooms := modelOf(x.b, g.Slot)
	roll := d.below(12)
	switch off := slices.Index(x.b.In, cut); {
	case off >= 0 && roll < 5:
		op.Kind, op.A = reaps, off
	case roll == 6:
		op.Kind, op.A = reaps, d.below(len(x.b.In))
	case roll == 7:
		op.Kind = leaves
	case between(op.Kind, gives, hands) && len(rooms) > 0:
		op.A = rooms[d.below(len(rooms))]
	}
	return asksOf(i, op.Kind, op.A, op.B)
}

// P19 and P20 on walks of guests that go on at single words, die and are cut off,
// asked behind each event.
func TestTalesOfWalks(t *testing.T) {
	onOneProcessor(t)
	met := map[int]int{}
	for n := range 16 {
		d := dice(800 + n)
		x := chronicleOf(t, impl.WorldOpen(impl.PlatCfg{Slots: 1 + n%mostSlots, Pages: 1 + n/mostSlots%3, Lease: 1 + d.below(4)}))
		for range 6 {
			for range 500 {
				x.happens(t, x.word(&d))
			}
			x.newcomers(t, &d)
		}
		for what, many := range x.met {
			met[what] += many
		}
	}
	for _, code := range []int{codeDone, codeSize, codeFull, codeWhere, codeWhose, codeWhom, codeTaken, codeKeeps, codeLives, codeNobody, codeMore, codeFenced} {
		if met[100+code] == 0 {
			t.Errorf("nobody of a walk was told %d", code)
		}
	}
	for _, code := range []int{codeDone, codeSize, codeFull, codeWhere, codeWhose, codeKeeps, codeMore} {
		if met[300+code] == 0 {
			t.Errorf("no call of a walk has happened with %d", code)
		}
	}
	if met[500+live] == 0 {
		t.Error("nobody of a walk was cut off")
	}
}

// twoIn is a world in which two guests are in with a room of two units each, a
// third one is there for when the first one's slot is free, and the first one is
// asked for a call.
func twoIn(t *testing.T, op impl.BookOp) *chronicle {
	t.Helper()
	x := chronicleOf(t, impl.WorldOpen(impl.PlatCfg{Slots: 2, Pages: 1, Lease: 3}))
	for slot := range 2 {
		x.happens(t, bornAt(slot))
		x.asked(t, slot, impl.BookOp{Kind: enters})
		x.asked(t, slot, impl.BookOp{Kind: takes, A: 2})
	}
	x.happens(t, bornAt(0))
	x.happens(t, asksOf(0, op.Kind, op.A, op.B))
	return x
}

// asked lets a guest make a call, as far as it comes by 400 steps.
func (x *chronicle) asked(t *testing.T, i int, op impl.BookOp) impl.Guest {
	t.Helper()
	x.happens(t, asksOf(i, op.Kind, op.A, op.B))
	x.happens(t, stepsOf(i, 400))
	return x.w.Guests[i]
}

func (x *chronicle) copied() *chronicle {
	y := *x
	y.list, y.events = slices.Clone(x.list), slices.Clone(x.events)
	return &y
}

// goesOn is what happens behind a guest that has stopped: time goes by, another
// one makes a call, the one that has stopped goes on, or does not, and is reaped
// behind its lease; and a new one comes in at its slot.
func (x *chronicle) goesOn(t *testing.T, second impl.BookOp, ticks int, dies bool) {
	t.Helper()
	x.happens(t, ticksOf(ticks))
	if dies {
		x.happens(t, diesOf(0))
	}
	x.happens(t, asksOf(1, second.Kind, second.A, second.B))
	x.happens(t, stepsOf(1, 60))
	x.happens(t, stepsOf(0, 400))
	x.happens(t, stepsOf(1, 400))
	x.happens(t, ticksOf(4))
	x.happens(t, stepsOf(1, 400))
	for range 4 {
		if g := x.asked(t, 1, impl.BookOp{Kind: reaps, A: 0}); g.Code != codeMore {
			break
		}
	}
	if x.w.Guests[1].Busy || x.b.In[0] != out {
		t.Fatalf("slot 0 is not reaped: %+v, %+v", x.w.Guests[1], x.b)
	}
	x.asked(t, 2, impl.BookOp{Kind: enters})
	if g := x.asked(t, 2, impl.BookOp{Kind: takes, A: 2}); g.Code != codeDone && g.Code != codeFull {
		t.Fatalf("the new one: %+v", g)
	}
	x.happens(t, stepsOf(0, 400))
	x.whole(t)
}

// P19 and P20: at each word of each call the guest stops, or dies, its lease runs
// out or does not, another one makes a call, helps, cuts off, breaks and reaps.
func TestTalesAtEachWord(t *testing.T) {
	onOneProcessor(t)
	calls := []impl.BookOp{
		{Kind: takes, A: 1}, {Kind: gives, A: 0}, {Kind: hands, A: 0, B: 1}, {Kind: leaves}, {Kind: reaps, A: 1}, {Kind: takes, A: 9},
	}
	others := []impl.BookOp{{Kind: takes, A: 2}, {Kind: gives, A: 2}, {Kind: reaps, A: 0}, {Kind: hands, A: 2, B: 0}}
	met := map[int]int{}
	for which, first := range calls {
		x := twoIn(t, first)
		for n := 0; x.w.Guests[0].Busy && n < 200; n++ {
			// The words that are only seen are many; every third of them will do.
			if x.w.Guests[0].Pc != pcSee || n%3 == 0 {
				for k := range 4 {
					y := x.copied()
					y.goesOn(t, others[(n+which+k)%len(others)], k/2*4, k%2 == 0)
				}
			}
			x.happens(t, stepsOf(0, 1))
		}
		for what, many := range x.met {
			met[what] += many
		}
	}
	for _, what := range []int{100 + codeDone, 100 + codeFull, 100 + codeKeeps, 100 + codeMore, 100 + codeFenced, 100 + codeLives, 500 + live} {
		if met[what] == 0 {
			t.Errorf("it never came to %d: %v", what, met)
		}
	}
}

// succeeded is a world in which guest 0 has stopped at a word of taking a room, and
// was cut off and reaped by guest 1; guest 2 has come in at its slot, and is asked
// to take a room likewise.
func succeeded(t *testing.T, words int) *chronicle {
	t.Helper()
	x := chronicleOf(t, impl.WorldOpen(impl.PlatCfg{Slots: 2, Pages: 1, Lease: 3}))
	for slot := range 2 {
		x.happens(t, bornAt(slot))
		x.asked(t, slot, impl.BookOp{Kind: enters})
	}
	x.happens(t, bornAt(0))
	x.happens(t, asksOf(0, takes, 1, 0))
	x.happens(t, stepsOf(0, words))
	x.happens(t, ticksOf(4))
	for range 3 {
		x.asked(t, 1, impl.BookOp{Kind: reaps, A: 0})
	}
	x.asked(t, 2, impl.BookOp{Kind: enters})
	x.happens(t, asksOf(2, takes, 1, 0))
	return x
}

// P19 and P20: one who was reaped wakes up, and goes on at the desk of the one who
// has come in behind it, who stands at each word of its own call.
func TestTalesOfSuccessors(t *testing.T) {
	onOneProcessor(t)
	fenced, others := 0, 0
	for words := 33; words < 66; words += 2 {
		x := succeeded(t, words)
		for n := 0; x.w.Guests[2].Busy; n++ {
			if x.w.Guests[2].Pc == pcSee && n%9 > 0 {
				x.happens(t, stepsOf(2, 1))
				continue
			}
			y := x.copied()
			for _, i := range []int{0, 2, 1} {
				if i == 1 {
					y.happens(t, asksOf(1, takes, 1, 0))
				}
				y.happens(t, stepsOf(i, 400))
			}
			y.whole(t)
			switch g := y.w.Guests[0]; {
			case !g.Busy && g.Code == codeFenced:
				fenced++
			default:
				others++
			}
			x.happens(t, stepsOf(2, 1))
		}
	}
	if fenced < 300 || others < 100 {
		t.Errorf("%d were fenced, %d were not", fenced, others)
	}
}

// P19 and P20: three guests go on in turns, by one word or a few; one of them dies
// in turn after turn, and time goes by in another one.
func TestTalesInTurns(t *testing.T) {
	onOneProcessor(t)
	for dies := 0; dies < 330; dies += 3 {
		x := chronicleOf(t, impl.WorldOpen(impl.PlatCfg{Slots: 3, Pages: 1, Lease: 2}))
		calls := []impl.BookOp{{Kind: takes, A: 3}, {Kind: takes, A: 4}, {Kind: gives, A: 0}, {Kind: hands, A: 4, B: 1}, {Kind: reaps, A: 0}, {Kind: leaves}}
		asked := [3]int{}
		for i := range 3 {
			x.happens(t, bornAt(i))
			x.happens(t, asksOf(i, enters, 0, 0))
		}
		for n := range 500 {
			i := n % 3
			if g := x.w.Guests[i]; !g.Busy && g.Up && g.Code != codeFenced {
				op := calls[(asked[i]+i)%len(calls)]
				if g.Epoch == 0 {
					op = impl.BookOp{Kind: enters}
				}
				asked[i]++
				x.happens(t, asksOf(i, op.Kind, op.A, op.B))
			}
			x.happens(t, stepsOf(i, 1+(n+dies)%(2+i)))
			if n == dies {
				x.happens(t, diesOf(0))
			}
			if n == dies*7%330 || n == 400 {
				x.happens(t, ticksOf(3))
			}
		}
		x.whole(t)
	}
}

// Somebody has turned the door to leave, and one who took it for dead cuts it off
// then: it has left, and the book has nobody there to be cut off.
func TestCutOffBehindItsLeaving(t *testing.T) {
	x := chronicleOf(t, impl.WorldOpen(impl.PlatCfg{Slots: 2, Pages: 1, Lease: 1}))
	for slot := range 2 {
		x.happens(t, bornAt(slot))
		x.asked(t, slot, impl.BookOp{Kind: enters})
	}
	x.happens(t, asksOf(0, leaves, 0, 0))
	for x.w.Guests[0].Pc != pcTurn {
		x.happens(t, stepsOf(0, 1))
	}
	x.happens(t, ticksOf(2))
	x.happens(t, asksOf(1, takes, 1, 0))
	for x.w.Guests[1].Pc != pcFence {
		x.happens(t, stepsOf(1, 1))
	}
	x.happens(t, stepsOf(0, 1))
	x.happens(t, stepsOf(1, 1))
	want := []impl.TaleItem{itemOf(0, impl.BookOp{Kind: leaves, Slot: 0}, codeDone, 0), cutBy(1, 0)}
	if got := x.list[2:]; !slices.Equal(got, want) || x.b.In[0] != out || x.met[500+out] != 1 {
		t.Fatalf("%v, %+v", got, x.b)
	}
	x.happens(t, stepsOf(1, 400))
	x.happens(t, stepsOf(0, 400))
	if x.w.Guests[0].Code != codeDone || x.w.Guests[0].Epoch != 0 || x.w.Guests[1].Code != codeDone {
		t.Errorf("%+v", x.w.Guests)
	}
	x.whole(t)
}

// Near their ends, the numbers of the door, the epochs and the clock: what is worn
// does not happen, and all else is what the book says.
func TestTalesNearTheEnds(t *testing.T) {
	onOneProcessor(t)
	worn := 0
	for n := range 12 {
		d := dice(900 + n)
		c := impl.PlatCfg{Slots: 2, Pages: 1, Lease: 2}
		w := impl.WorldOpen(c)
		if n%3 == 0 {
			w.Words[2] = doorOf(doorFree, 0, 0, mostDoor-12)
		}
		if n%3 == 1 {
			w.Words[regAt(c, 0)], w.Words[regAt(c, 1)] = regOf(out, 4092, 0), regOf(out, 4094, 0)
		}
		if n%3 == 2 {
			w.Words[1] = wordOf(mostVal-6, 0)
		}
		x := chronicleOf(t, w)
		for range 3 {
			for range 400 {
				x.happens(t, x.word(&d))
			}
			x.newcomers(t, &d)
		}
		worn += x.met[100+codeWorn]
	}
	if worn < 4 {
		t.Errorf("%d were told that something is worn", worn)
	}
}

// The same tale each time, by many at the same time, and on one processor; and
// nobody is left behind.
func TestTheSameTaleEachTime(t *testing.T) {
	w, events := crowded(t)
	for n, e := range events {
		if e.Kind == stepsKind {
			events[n].N *= 5
		} else if n%20 != 1 {
			events[n].N = 0
		}
	}
	want := seeTale(t, "once", w, events)
	before := runtime.NumGoroutine()
	var all sync.WaitGroup
	same := make([]bool, 40)
	for n := range same {
		all.Add(1)
		go func() {
			defer all.Done()
			same[n] = slices.Equal(impl.TalePlay(w, events), want)
		}()
	}
	all.Wait()
	if slices.Contains(same, false) || len(want) < 10 {
		t.Errorf("not the same, at the same time: %v", want)
	}
	defer runtime.GOMAXPROCS(runtime.GOMAXPROCS(1))
	for n := range 200 {
		if got := impl.TalePlay(w, events[:n]); !slices.Equal(got, modelTale(w, events[:n])) {
			t.Errorf("%d events, on one processor: %v", n, got)
		}
		impl.TalePlay(impl.World{}, events)
	}
	if !settled(before) {
		t.Errorf("%d goroutines, and there were %d", runtime.NumGoroutine(), before)
	}
}
