package tests

import (
	"testing"

	"loop.example/hostel/impl"
)

// From here on: the chapter once more, as plainly as can be.

// modelMayBear says whether a word of a house may bear its stamp, as the door is.
func modelMayBear(c impl.PlatCfg, w []uint64, at int) bool {
	state, number := valOf(w[doorAt])%4, stampOf(w[doorAt])
	if at < regAt(c, 0) || between(at, beatAt(c, 0), beatAt(c, 0)+c.Slots-1) {
		return true
	}
	if stampOf(w[at]) < number {
		return true
	}
	if stampOf(w[at]) > number {
		return false
	}
	return state == doorDone || state == doorHeld && at >= deskAt(c, 0)
}

func modelVowStamps(w []uint64) bool {
	c, known := modelHouse(w)
	if !known || len(w) != sizeOf(c) {
		return false
	}
	for at := range w {
		if !modelMayBear(c, w, at) {
			return false
		}
	}
	return true
}

func modelVowGuest(w impl.World, i int) bool {
	if !modelWorldOk(w) || i < 0 || i >= len(w.Guests) {
		return false
	}
	c, _ := modelHouse(w.Words)
	g := w.Guests[i]
	epoch := valOf(w.Words[regAt(c, g.Slot)]) / 4
	return g.Epoch <= epoch && g.Next <= epoch+1 && g.Seq <= stampOf(w.Words[doorAt]) && g.Time <= valOf(w.Words[clockAt])
}

func modelVowWorld(w impl.World) bool {
	if !modelWorldOk(w) || !modelVowStamps(w.Words) {
		return false
	}
	for i := range w.Guests {
		if !modelVowGuest(w, i) {
			return false
		}
	}
	_, stands := modelTrueBook(w.Words)
	return stands
}

// modelHas says whether a guest of a world that is ok holds the door, or has
// turned it.
func modelHas(w impl.World, i int) bool {
	g, door := w.Guests[i], w.Words[doorAt]
	if !g.Busy {
		return false
	}
	if g.Own && g.Door == door {
		return true
	}
	return (between(g.Pc, pcSee, pcTurn) || g.Pc == pcYield) && door == doorOf(doorHeld, g.Slot, g.Epoch, g.Seq)
}

// modelHave are the guests that have the door.
func modelHave(w impl.World) []int {
	var out []int
	for i := range w.Guests {
		if modelHas(w, i) {
			out = append(out, i)
		}
	}
	return out
}

func modelHolder(w impl.World) (int, bool) {
	if !modelWorldOk(w) {
		return 0, false
	}
	have := modelHave(w)
	if len(have) == 0 {
		return 0, false
	}
	return have[0], true
}

// The calls of the chapter, with what is handed in looked at.

func vowStamps(t *testing.T, w []uint64) bool {
	t.Helper()
	lent, asTheyWere := lendWords(w)
	got := impl.VowStamps(lent)
	if again := impl.VowStamps(lent); again != got || !asTheyWere() {
		t.Fatalf("%v, then %v, or the words are not as they were: %x", got, again, w)
	}
	return got
}

// vowAsked lends a world to a call, twice.
func vowAsked(t *testing.T, w impl.World, call func(w impl.World) (int, bool)) (int, bool) {
	t.Helper()
	lent, asItWas := lendWorld(w)
	i, got := call(lent)
	if j, again := call(lent); j != i || again != got || !asItWas() {
		t.Fatalf("%d, %v, then %d, %v, or the world is not as it was: %+v", i, got, j, again, w)
	}
	return i, got
}

func vowGuest(t *testing.T, w impl.World, i int) bool {
	t.Helper()
	_, got := vowAsked(t, w, func(w impl.World) (int, bool) { return i, impl.VowGuest(w, i) })
	return got
}

func vowWorld(t *testing.T, w impl.World) bool {
	t.Helper()
	_, got := vowAsked(t, w, func(w impl.World) (int, bool) { return 0, impl.VowWorld(w) })
	return got
}

func vowHolder(t *testing.T, w impl.World) (int, bool) {
	t.Helper()
	return vowAsked(t, w, impl.VowHolder)
}

// seeStamps holds words against the model, and both against what is expected.
func seeStamps(t *testing.T, why string, w []uint64, want bool) {
	t.Helper()
	if got := vowStamps(t, w); got != want || modelVowStamps(w) != want {
		t.Fatalf("%s: %v, and by the model %v: %x", why, got, modelVowStamps(w), w)
	}
}

// seeSight holds a guest against the model, and both against what is expected.
func seeSight(t *testing.T, why string, w impl.World, i int, want bool) {
	t.Helper()
	if got := vowGuest(t, w, i); got != want || modelVowGuest(w, i) != want {
		t.Fatalf("%s, guest %d: %v, and by the model %v: %+v", why, i, got, modelVowGuest(w, i), w)
	}
}

func seeWorldVow(t *testing.T, why string, w impl.World, want bool) {
	t.Helper()
	if got := vowWorld(t, w); got != want || modelVowWorld(w) != want {
		t.Fatalf("%s: %v, and by the model %v: %+v", why, got, modelVowWorld(w), w)
	}
}

// seeHolder holds who has the door against the model, and both against what is
// expected; -1 is nobody.
func seeHolder(t *testing.T, why string, w impl.World, want int) {
	t.Helper()
	got, ok := vowHolder(t, w)
	i, has := modelHolder(w)
	if got != max(want, 0) || ok != (want >= 0) || i != got || has != ok {
		t.Fatalf("%s: %d, %v, and by the model %d, %v, not %d: %+v", why, got, ok, i, has, want, w)
	}
}

// seeVows holds all calls of the chapter against the model.
func seeVows(t *testing.T, why string, w impl.World) {
	t.Helper()
	seeStamps(t, why, w.Words, modelVowStamps(w.Words))
	seeWorldVow(t, why, w, modelVowWorld(w))
	for i := -1; i <= len(w.Guests); i++ {
		seeSight(t, why, w, i, modelVowGuest(w, i))
	}
	want := -1
	if i, has := modelHolder(w); has {
		want = i
	}
	seeHolder(t, why, w, want)
}
