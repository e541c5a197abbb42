package tests

import (
	"slices"
	"testing"

	"loop.example/hostel/impl"
)

// mostItems is how many things a tale has at most, in plain figures.
const mostItems = 2000

// itemOf is a call that has happened.
func itemOf(guest int, op impl.BookOp, code int, val int) impl.TaleItem {
	return impl.TaleItem{Guest: guest, Op: op, Code: code, Val: val}
}

// cutBy is that a guest has cut a slot off.
func cutBy(guest int, slot int) impl.TaleItem {
	return impl.TaleItem{Cut: true, Guest: guest, Op: impl.BookOp{Slot: slot}}
}

// From here on: the chapter once more, as plainly as can be.

// modelTold is what a step tells: nothing, or one thing.
func modelTold(i int, ahead impl.Guest, behind impl.Guest, did int) []impl.TaleItem {
	switch did {
	case didTurn:
		return []impl.TaleItem{itemOf(i, ahead.Op, ahead.Code, ahead.Val)}
	case didJoin:
		return []impl.TaleItem{itemOf(i, ahead.Op, codeDone, ahead.Next)}
	case didCut:
		return []impl.TaleItem{cutBy(i, behind.Who)}
	}
	return nil
}

func modelTale(w impl.World, events []impl.WorldEvent) []impl.TaleItem {
	if !modelWorldOk(w) || len(events) > mostEvents {
		return nil
	}
	var list []impl.TaleItem
	for _, e := range events {
		if e.Kind != stepsKind || !between(e.I, 0, len(w.Guests)-1) {
			w = modelHappens(w, e)
			continue
		}
		for n := 0; n < e.N && n < mostSteps; n++ {
			x, did := modelOne(w, e.I)
			list = append(list, modelTold(e.I, w.Guests[e.I], x.Guests[e.I], did)...)
			w = x
		}
	}
	return list
}

func modelTaleBook(b impl.Book, list []impl.TaleItem) (impl.Book, bool) {
	if !modelOk(b) || len(list) > mostItems {
		return impl.Book{}, false
	}
	wrong := 0
	for _, item := range list {
		if item.Cut {
			b = modelCut(b, item.Op.Slot)
			continue
		}
		x, code, val := modelDo(b, item.Op)
		if item.Code != code || item.Val != val {
			wrong++
		}
		b = x
	}
	return copyOf(b), wrong == 0
}

func modelTaleOf(list []impl.TaleItem, guest int) []impl.TaleItem {
	return slices.DeleteFunc(slices.Clone(list), func(item impl.TaleItem) bool { return item.Cut || item.Guest != guest })
}

// The calls of the chapter, with their memory looked at.

// lendList is a list with spare room behind it, and a question whether all of it
// is still as it was.
func lendList[T comparable](list []T, behind ...T) ([]T, func() bool) {
	room := append(slices.Clone(list), behind...)
	before := slices.Clone(room)
	return room[:len(list)], func() bool { return slices.Equal(room, before) }
}

func lendItems(list []impl.TaleItem) ([]impl.TaleItem, func() bool) {
	return lendList(list, impl.TaleItem{Guest: 81}, impl.TaleItem{Cut: true, Code: 82})
}

func lendEvents(events []impl.WorldEvent) ([]impl.WorldEvent, func() bool) {
	return lendList(events, impl.WorldEvent{Kind: 77}, impl.WorldEvent{N: 78})
}

// takenTale is a tale as it was answered. What was answered is written over, spare
// room included: neither what was handed in nor another answer may be another by
// that.
func takenTale(t *testing.T, what any, call func() []impl.TaleItem, asItWas func() bool) []impl.TaleItem {
	t.Helper()
	got, other := call(), call()
	answer := slices.Clone(got)
	for _, list := range [][]impl.TaleItem{got, other} {
		if !slices.Equal(list, answer) {
			t.Fatalf("%v: another answer: %v, not %v", what, list, answer)
		}
		all := list[:cap(list)]
		for at := range all {
			all[at] = impl.TaleItem{Cut: true, Guest: -1000 - at}
		}
	}
	if !asItWas() {
		t.Fatalf("%v: what was handed in is not as it was", what)
	}
	return answer
}

func talePlay(t *testing.T, w impl.World, events []impl.WorldEvent) []impl.TaleItem {
	t.Helper()
	world, worldAsItWas := lendWorld(w)
	room, eventsAsTheyWere := lendEvents(events)
	return takenTale(t, "TalePlay",
		func() []impl.TaleItem { return impl.TalePlay(world, room) },
		func() bool { return worldAsItWas() && eventsAsTheyWere() })
}

func taleOf(t *testing.T, list []impl.TaleItem, guest int) []impl.TaleItem {
	t.Helper()
	room, asItWas := lendItems(list)
	return takenTale(t, guest, func() []impl.TaleItem { return impl.TaleOf(room, guest) }, asItWas)
}

func taleBook(t *testing.T, b impl.Book, list []impl.TaleItem) (impl.Book, bool) {
	t.Helper()
	room, asItWas := lendItems(list)
	said := false
	x := answered(t, "TaleBook", b, func(b impl.Book) (x impl.Book) {
		x, said = impl.TaleBook(b, room)
		return x
	})
	if !asItWas() {
		t.Fatalf("the tale is not as it was: %v", list)
	}
	return x, said
}

// seeTale holds what happens in a world against the model.
func seeTale(t *testing.T, why string, w impl.World, events []impl.WorldEvent) []impl.TaleItem {
	t.Helper()
	want := modelTale(w, events)
	got := talePlay(t, w, events)
	if !slices.Equal(got, want) {
		t.Fatalf("%s, %d events:\n%+v\nnot\n%+v", why, len(events), got, want)
	}
	return got
}

// seeTells holds what happens in a world against what is named in figures, and
// against the model.
func seeTells(t *testing.T, why string, w impl.World, events []impl.WorldEvent, want ...impl.TaleItem) {
	t.Helper()
	if got := seeTale(t, why, w, events); !slices.Equal(got, want) {
		t.Errorf("%s:\n%+v\nnot\n%+v", why, got, want)
	}
}

// seeTaleBook holds the book behind a tale against the model.
func seeTaleBook(t *testing.T, why string, b impl.Book, list []impl.TaleItem) (impl.Book, bool) {
	t.Helper()
	want, wantSaid := modelTaleBook(b, list)
	got, said := taleBook(t, b, list)
	if !alike(got, want) || said != wantSaid {
		t.Fatalf("%s, %d items: %v, %+v\nnot\n%v, %+v", why, len(list), said, got, wantSaid, want)
	}
	return got, said
}
