package tests

import (
	"reflect"
	"runtime"
	"slices"
	"testing"

	"loop.example/hostel/impl"
)

// What happens to worlds, and how much of it at once, in plain figures.
const (
	bornKind  = 1
	diesKind  = 2
	asksKind  = 3
	stepsKind = 4
	ticksKind = 5

	mostGuests = 6
	mostSteps  = 400
	mostTicks  = 1000
	mostEvents = 1000
)

func bornAt(slot int) impl.WorldEvent { return impl.WorldEvent{Kind: bornKind, N: slot} }
func diesOf(i int) impl.WorldEvent    { return impl.WorldEvent{Kind: diesKind, I: i} }
func stepsOf(i, n int) impl.WorldEvent {
	return impl.WorldEvent{Kind: stepsKind, I: i, N: n}
}
func ticksOf(n int) impl.WorldEvent { return impl.WorldEvent{Kind: ticksKind, N: n} }

func asksOf(i int, call int, a int, b int) impl.WorldEvent {
	return impl.WorldEvent{Kind: asksKind, I: i, Call: call, A: a, B: b}
}

// copyWorld is a world with lists of its own, none where they are empty.
func copyWorld(w impl.World) impl.World {
	out := impl.World{Words: append([]uint64(nil), w.Words...)}
	for _, g := range w.Guests {
		out.Guests = append(out.Guests, copyGuest(g))
	}
	return out
}

// sameWorld compares all that worlds have; the empty list is no list.
func sameWorld(a impl.World, b impl.World) bool {
	return slices.Equal(a.Words, b.Words) && slices.EqualFunc(a.Guests, b.Guests, sameGuest)
}

func isNoWorld(w impl.World) bool { return len(w.Words) == 0 && len(w.Guests) == 0 }

// From here on: the chapter once more, as plainly as can be.

func modelWorldOk(w impl.World) bool {
	c, known := modelHouse(w.Words)
	if !known || len(w.Words) != sizeOf(c) || len(w.Guests) > mostGuests {
		return false
	}
	for _, g := range w.Guests {
		if !modelGuestOk(c, g) {
			return false
		}
	}
	return true
}

// modelOne is a step of a world that is ok. One that would leave none is no step.
func modelOne(w impl.World, i int) (impl.World, int) {
	x := copyWorld(w)
	if i < 0 || i >= len(w.Guests) {
		return x, didNothing
	}
	did := didNothing
	x.Words, x.Guests[i], did = modelKept(w.Words, w.Guests[i])
	if !modelWorldOk(x) {
		return copyWorld(w), didNothing
	}
	return x, did
}

// modelHappens is a world that is ok behind an event.
func modelHappens(w impl.World, e impl.WorldEvent) impl.World {
	x := copyWorld(w)
	c, _ := modelHouse(w.Words)
	there := e.I >= 0 && e.I < len(w.Guests)
	switch {
	case e.Kind == bornKind && e.N >= 0 && e.N < c.Slots && len(w.Guests) < mostGuests:
		x.Guests = append(x.Guests, impl.Guest{Up: true, Slot: e.N})
	case e.Kind == diesKind && there:
		x.Guests[e.I].Up = false
	case e.Kind == asksKind && there:
		x.Guests[e.I] = modelAsk(w.Guests[e.I], impl.BookOp{Kind: e.Call, A: e.A, B: e.B})
	case e.Kind == stepsKind && there:
		for n := 0; n < e.N && n < mostSteps; n++ {
			x, _ = modelOne(x, e.I)
		}
	case e.Kind == ticksKind && e.N >= 0 && e.N <= mostTicks:
		x.Words[1] = wordOf(min(valOf(w.Words[1])+e.N, mostVal), stampOf(w.Words[1]))
	}
	return x
}

func modelPlayed(w impl.World, events []impl.WorldEvent) impl.World {
	if !modelWorldOk(w) || len(events) > mostEvents {
		return impl.World{}
	}
	for _, e := range events {
		w = modelHappens(w, e)
	}
	return copyWorld(w)
}

// modelTrueBook is the book of words of a house with what is done carried out.
func modelTrueBook(w []uint64) (impl.Book, bool) {
	c, _ := modelHouse(w)
	done := modelDone(w, c)
	c, known := modelHouse(done)
	if !known || len(done) != sizeOf(c) {
		return impl.Book{}, false
	}
	return modelBook(done, c)
}

// onOneProcessor is for tests of very many steps: each of them goes from hand to
// hand, which costs least there.
func onOneProcessor(t *testing.T) {
	t.Helper()
	was := runtime.GOMAXPROCS(1)
	t.Cleanup(func() { runtime.GOMAXPROCS(was) })
}

// The calls of the chapter, with their memory looked at.

// lendWorld is a world with spare room behind each of its lists, and a question
// whether all of it is still as it was.
func lendWorld(w impl.World) (impl.World, func() bool) {
	words, wordsAsTheyWere := lendWords(w.Words)
	kept := []func() bool{wordsAsTheyWere}
	var room []impl.Guest
	for _, g := range w.Guests {
		lent, asItWas := lendGuest(g)
		room, kept = append(room, lent), append(kept, asItWas)
	}
	room = append(room, impl.Guest{Slot: 91, Pc: 92}, impl.Guest{Slot: 93, Snap: []uint64{94}})
	before := copyWorld(impl.World{Guests: room}).Guests
	many := len(w.Guests)
	return impl.World{Words: words, Guests: room[:many]}, func() bool {
		for _, asItWas := range kept {
			if !asItWas() {
				return false
			}
		}
		return reflect.DeepEqual(copyWorld(impl.World{Guests: room}).Guests, before)
	}
}

// spoilWorld writes over all lists of a world, spare room included; false, if two
// of them share memory.
func spoilWorld(w impl.World) bool {
	lists := [][]uint64{w.Words}
	guests := w.Guests[:cap(w.Guests)]
	for i := range guests {
		lists = append(lists, guests[i].Snap, guests[i].Plan)
	}
	apart := spoilAll(lists...)
	for i := range guests {
		guests[i] = impl.Guest{Slot: 1000 + i}
	}
	return apart
}

// worldCall lends a world to a call, and is what it has answered.
func worldCall(t *testing.T, what any, w impl.World, call func(w impl.World) impl.World) impl.World {
	t.Helper()
	lent, asItWas := lendWorld(w)
	got := call(lent)
	answer := copyWorld(got)
	if !spoilWorld(got) {
		t.Fatalf("%v: lists of the answer share memory: %v", what, answer)
	}
	if !asItWas() {
		t.Fatalf("%v: the world that was handed in is not as it was: %v", what, w)
	}
	return answer
}

func worldOne(t *testing.T, w impl.World, i int) (impl.World, int) {
	t.Helper()
	did := -1
	got := worldCall(t, i, w, func(w impl.World) (x impl.World) {
		x, did = impl.WorldOne(w, i)
		return x
	})
	return got, did
}

func worldDo(t *testing.T, w impl.World, e impl.WorldEvent) impl.World {
	t.Helper()
	return worldCall(t, e, w, func(w impl.World) impl.World { return impl.WorldDo(w, e) })
}

func worldPlay(t *testing.T, w impl.World, events []impl.WorldEvent) impl.World {
	t.Helper()
	room := append(slices.Clone(events), impl.WorldEvent{Kind: 77}, impl.WorldEvent{N: 78})
	before := slices.Clone(room)
	many := len(events)
	got := worldCall(t, "a play", w, func(w impl.World) impl.World { return impl.WorldPlay(w, room[:many]) })
	if !slices.Equal(room, before) {
		t.Fatalf("events are not as they were: %v", events)
	}
	return got
}

func worldBook(t *testing.T, w impl.World) (impl.Book, bool) {
	t.Helper()
	lent, asItWas := lendWorld(w)
	got, ok := impl.WorldBook(lent)
	answer := copyOf(got)
	if !spoil(got) {
		t.Fatalf("lists of the book share memory: %v", answer)
	}
	if !asItWas() {
		t.Fatalf("the world that was handed in is not as it was: %v", w)
	}
	return answer, ok
}

func worldOk(t *testing.T, w impl.World) bool {
	t.Helper()
	lent, asItWas := lendWorld(w)
	ok := impl.WorldOk(lent)
	if !asItWas() {
		t.Fatalf("the world that was handed in is not as it was: %v", w)
	}
	return ok
}

// seeDo holds an event in a world that is ok against the model, and asks for the
// first half of P17.
func seeDo(t *testing.T, why string, w impl.World, e impl.WorldEvent) impl.World {
	t.Helper()
	want := modelHappens(w, e)
	got := worldDo(t, w, e)
	if !sameWorld(got, want) {
		t.Fatalf("%s, %+v:\n%+v\nnot\n%+v", why, e, got, want)
	}
	if !modelWorldOk(got) || !worldOk(t, got) {
		t.Fatalf("%s, %+v: a world that is not ok: %+v", why, e, got)
	}
	return got
}

// seeOne holds a step in a world that is ok against the model.
func seeOne(t *testing.T, why string, w impl.World, i int) (impl.World, int) {
	t.Helper()
	want, wantDid := modelOne(w, i)
	got, did := worldOne(t, w, i)
	if !sameWorld(got, want) || did != wantDid {
		t.Fatalf("%s, guest %d: did %d, not %d\n%+v\nnot\n%+v", why, i, did, wantDid, got, want)
	}
	if !modelWorldOk(got) || !worldOk(t, got) {
		t.Fatalf("%s, guest %d: a world that is not ok: %+v", why, i, got)
	}
	return got, did
}

// seePlay holds events in a world that is ok against the model.
func seePlay(t *testing.T, why string, w impl.World, events []impl.WorldEvent) impl.World {
	t.Helper()
	want := modelPlayed(w, events)
	got := worldPlay(t, w, events)
	if !sameWorld(got, want) {
		t.Fatalf("%s, %d events:\n%+v\nnot\n%+v", why, len(events), got, want)
	}
	return got
}
