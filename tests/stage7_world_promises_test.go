package tests

import (
	"runtime"
	"slices"
	"sync"
	"testing"
	"time"

	"loop.example/hostel/impl"
)

// anyWorld is a world that is ok: words that are thrown, and guests at any
// places, of which some are dead, and some idle with what they once had.
func (d *dice) anyWorld() impl.World {
	c, w := d.anyHouse()
	out := impl.World{Words: w}
	for range d.below(mostGuests + 1) {
		g := d.anyGuest(c, w, pcBeat+d.below(pcYield))
		if d.below(5) == 0 {
			g.Busy, g.Pc = false, pcIdle
		}
		g.Up = d.below(5) > 0
		out.Guests = append(out.Guests, g)
	}
	return out
}

// anyEvent is an event that is as often sensible as not, in a world.
func (d *dice) anyEvent(w impl.World) impl.WorldEvent {
	c, _ := modelHouse(w.Words)
	e := impl.WorldEvent{Kind: d.below(8) - 1, I: d.below(len(w.Guests)+2) - 1, N: d.below(c.Slots+2) - 1}
	e.Call, e.A, e.B = d.below(9)-1, d.below(8*c.Pages+2)-1, d.below(c.Slots+2)-1
	if len(w.Guests) > 0 && d.below(2) == 0 {
		e.Kind, e.I = stepsKind, d.below(len(w.Guests))
	}
	switch {
	case e.Kind == stepsKind && d.below(3) > 0:
		e.N = d.below(90)
	case e.Kind == stepsKind:
		e.N = []int{-1, 0, 1, 1, 1, 400, 401}[d.below(7)]
	case e.Kind == ticksKind:
		e.N = []int{-1, 0, 1, 1, 2, c.Lease, c.Lease + 1, 1000, 1001}[d.below(9)]
	}
	return e
}

// P17, of worlds and events that are thrown.
func TestAnythingHappensToAnyWorld(t *testing.T) {
	onOneProcessor(t)
	d := dice(17)
	turned := 0
	for range 3000 {
		w := d.anyWorld()
		if !modelWorldOk(w) || !worldOk(t, w) {
			t.Fatalf("the test's world is not ok: %+v", w)
		}
		for range 4 {
			x := seeDo(t, "thrown", w, d.anyEvent(w))
			if !sameWorld(x, w) {
				turned++
			}
			w = x
		}
		for i := range w.Guests {
			seeOne(t, "thrown", w, i)
		}
	}
	if turned < 4000 {
		t.Errorf("%d events alone have done anything", turned)
	}
}

// sensible is the next event of a walk: mostly steps, and calls of who is idle.
func (d *dice) sensible(w impl.World) impl.WorldEvent {
	c, _ := modelHouse(w.Words)
	if len(w.Guests) < 2 || len(w.Guests) < mostGuests && d.below(30) == 0 {
		return bornAt(d.below(c.Slots))
	}
	i := d.below(len(w.Guests))
	g := w.Guests[i]
	switch roll := d.below(200); {
	case roll == 0:
		return diesOf(i)
	case roll < 6:
		return ticksOf(1 + d.below(c.Lease+1))
	case roll < 12:
		return d.anyEvent(w)
	case !g.Busy && g.Epoch == 0:
		return asksOf(i, enters, 0, 0)
	case !g.Busy && d.below(3) == 0:
		return asksOf(i, leaves+d.below(2), d.below(c.Slots), 0)
	case !g.Busy:
		return asksOf(i, takes+d.below(3), d.below(8*c.Pages), d.below(c.Slots))
	}
	return stepsOf(i, 1+d.below(1+d.below(60)))
}

// seeDead asks for P18 of an event: the dead stay as they are; what they are let
// to do turns nothing; and a tick turns the clock alone.
func seeDead(t *testing.T, w impl.World, e impl.WorldEvent, x impl.World) {
	t.Helper()
	for i, g := range w.Guests {
		if !g.Up && !sameGuest(x.Guests[i], g) {
			t.Fatalf("%v: the dead guest %d is another: %+v, behind %+v", e, i, x.Guests[i], g)
		}
	}
	ofDead := e.Kind != bornKind && e.Kind != ticksKind && between(e.I, 0, len(w.Guests)-1) && !w.Guests[e.I].Up
	if ofDead && !sameWorld(x, w) {
		t.Fatalf("%v of who is dead: %+v, behind %+v", e, x, w)
	}
	if e.Kind == ticksKind {
		y := copyWorld(x)
		y.Words[1] = wordOf(valOf(w.Words[1]), stampOf(x.Words[1]))
		if !sameWorld(y, w) || valOf(x.Words[1]) < min(valOf(w.Words[1]), mostVal) {
			t.Fatalf("%v: %+v, behind %+v", e, x, w)
		}
	} else if x.Words[1] != w.Words[1] {
		t.Fatalf("%v: the clock was %x, is %x", e, w.Words[1], x.Words[1])
	}
}

// P17 and P18 on walks from open houses, of events one by one; and all of them
// played at once, and in two parts.
func TestWalksOfWorlds(t *testing.T) {
	onOneProcessor(t)
	dead, told := 0, map[int]bool{}
	for n := range 24 {
		d := dice(700 + n)
		open := impl.WorldOpen(impl.PlatCfg{Slots: 1 + n%mostSlots, Pages: 1 + n/4%3, Lease: 1 + d.below(6)})
		w, events := open, []impl.WorldEvent(nil)
		for range 400 {
			e := d.sensible(w)
			x := seeDo(t, "a walk", w, e)
			seeDead(t, w, e, x)
			w, events = x, append(events, e)
		}
		if got := worldPlay(t, open, events); !sameWorld(got, w) {
			t.Fatalf("walk %d, played at once: %+v, not %+v", n, got, w)
		}
		at := d.below(len(events))
		if got := worldPlay(t, worldPlay(t, open, events[:at]), events[at:]); !sameWorld(got, w) {
			t.Fatalf("walk %d, cut at %d: %+v, not %+v", n, at, got, w)
		}
		want, stands := modelTrueBook(w.Words)
		if b, ok := worldBook(t, w); !ok || !stands || !alike(b, want) {
			t.Fatalf("walk %d: %v, %+v, not %+v", n, ok, b, want)
		}
		for _, g := range w.Guests {
			if !g.Up {
				dead++
			}
			told[g.Code] = true
		}
	}
	if dead < 20 || len(told) < 5 {
		t.Errorf("%d dead, and told %v", dead, told)
	}
}

// P18: thrown worlds in which all are dead: whatever they are let or asked to do,
// nothing turns.
func TestAllAreDead(t *testing.T) {
	onOneProcessor(t)
	d := dice(18)
	for range 300 {
		w := d.anyWorld()
		for i := range w.Guests {
			w.Guests[i].Up = false
		}
		for i := range w.Guests {
			if got, did := seeOne(t, "dead", w, i); !sameWorld(got, w) || did != didNothing {
				t.Fatalf("guest %d: %d, %+v", i, did, got)
			}
			for _, e := range []impl.WorldEvent{stepsOf(i, 1), stepsOf(i, 400), diesOf(i), asksOf(i, 1+d.below(6), d.below(9), d.below(4))} {
				if got := seeDo(t, "dead", w, e); !sameWorld(got, w) {
					t.Fatalf("%v: %+v", e, got)
				}
			}
		}
		e := ticksOf(d.below(1001))
		seeDead(t, w, e, seeDo(t, "a tick", w, e))
	}
}

// P17 and P18: at each step of one call the guest dies, and the other one goes
// on: from there on nothing of the dead one is another.
func TestDeadAtEachStep(t *testing.T) {
	for _, op := range []impl.BookOp{{Kind: takes, A: 2}, {Kind: gives, A: 0}, {Kind: reaps, A: 1}} {
		w, n := alone(t, op)
		w = seeDo(t, "another one", w, bornAt(2))
		w.Guests[2] = guestOf(1, 1)
		for range n {
			x := seeDo(t, "dies", w, diesOf(0))
			for _, e := range []impl.WorldEvent{ticksOf(9), asksOf(2, takes, 1, 0), stepsOf(2, 40), stepsOf(0, 3), stepsOf(2, 400), stepsOf(0, 400)} {
				y := seeDo(t, "behind a death", x, e)
				seeDead(t, x, e, y)
				x = y
			}
			if x.Guests[2].Busy {
				t.Fatalf("the other one has no answer: %+v", x.Guests[2])
			}
			w = seeDo(t, "on", w, stepsOf(0, 1))
		}
	}
}

// Steps one behind the other are the steps of one event, cut anywhere.
func TestStepsCutAnywhere(t *testing.T) {
	w, n := alone(t, impl.BookOp{Kind: takes, A: 2})
	whole := seeDo(t, "whole", w, stepsOf(0, 400))
	for at := range n + 2 {
		two := worldPlay(t, w, []impl.WorldEvent{stepsOf(0, at), stepsOf(0, 400-at)})
		if !sameWorld(two, whole) {
			t.Errorf("cut at %d: %+v", at, two)
		}
	}
}

// crowded is a world in which five are up and busy, one is dead, and the door is
// held; and events in which all go on.
func crowded(t *testing.T) (impl.World, []impl.WorldEvent) {
	t.Helper()
	w := impl.WorldOpen(impl.PlatCfg{Slots: 4, Pages: 2, Lease: 5})
	var events []impl.WorldEvent
	for i := range mostGuests {
		events = append(events, bornAt(i%4), asksOf(i, enters, 0, 0), stepsOf(i, 400), asksOf(i, takes, 1+i, 0), stepsOf(i, 7*i))
	}
	w = seePlay(t, "a crowd", w, append(events, diesOf(3)))
	events = nil
	for n := range 150 {
		i := n % mostGuests
		events = append(events, stepsOf(i, 1+n%13), ticksOf(n%2), asksOf(i, takes+n%3, n%16, n%4))
	}
	return w, events
}

// settled waits until there are no more goroutines than there were: one that has
// been joined may need a moment to be gone.
func settled(before int) bool {
	for range 2000 {
		if runtime.NumGoroutine() <= before {
			return true
		}
		time.Sleep(time.Millisecond)
	}
	return false
}

// Goroutines that were begun have ended when a call has answered.
func TestNobodyIsLeftBehind(t *testing.T) {
	w, events := crowded(t)
	before := runtime.NumGoroutine()
	for n := range 300 {
		impl.WorldPlay(w, events[:n])
		impl.WorldOne(w, n%mostGuests)
		impl.WorldDo(w, stepsOf(n%mostGuests, n))
		impl.WorldPlay(impl.World{}, events)
		impl.WorldBook(w)
	}
	if !settled(before) {
		t.Errorf("%d goroutines, and there were %d", runtime.NumGoroutine(), before)
	}
}

// The same answer each time, by many at the same time, and on one processor.
func TestTheSameEachTime(t *testing.T) {
	w, events := crowded(t)
	want := seePlay(t, "once", w, events)
	var all sync.WaitGroup
	same := make([]bool, 40)
	for n := range same {
		all.Add(1)
		go func() {
			defer all.Done()
			same[n] = sameWorld(impl.WorldPlay(w, events), want)
		}()
	}
	all.Wait()
	if slices.Contains(same, false) {
		t.Error("not the same, at the same time")
	}
	defer runtime.GOMAXPROCS(runtime.GOMAXPROCS(1))
	for range 5 {
		if got := worldPlay(t, w, events); !sameWorld(got, want) {
			t.Errorf("not the same, on one processor: %+v", got)
		}
	}
}
