package tests

import (
	"slices"
	"testing"

	"loop.example/hostel/impl"
)

// mostLeft is the most that is told of what is left of a lease, in plain figures.
const mostLeft = 2000000

// From here on: the chapter once more, as plainly as can be.

// modelLives says whether somebody is in at a slot of a house, and was not cut off.
func modelLives(w []uint64, slot int) (impl.PlatCfg, bool) {
	c, known := modelHouse(w)
	if !known || len(w) != sizeOf(c) || slot < 0 || slot >= c.Slots {
		return c, false
	}
	return c, valOf(w[regAt(c, slot)])%4 == live
}

func modelLeft(w []uint64, slot int) int {
	c, lives := modelLives(w, slot)
	if !lives {
		return 0
	}
	beat, epoch := w[beatAt(c, slot)], valOf(w[regAt(c, slot)])/4
	if stampOf(beat) > epoch {
		return c.Lease
	}
	if stampOf(beat) < epoch {
		return 0
	}
	gone := valOf(w[clockAt]) - valOf(beat)
	if gone >= c.Lease {
		return 0
	}
	if c.Lease-gone > mostLeft {
		return mostLeft
	}
	return c.Lease - gone
}

func modelOver(w []uint64, slot int) bool {
	c, lives := modelLives(w, slot)
	if !lives {
		return false
	}
	beat, epoch := w[beatAt(c, slot)], valOf(w[regAt(c, slot)])/4
	if stampOf(beat) == epoch {
		return valOf(w[clockAt])-valOf(beat) > c.Lease
	}
	return stampOf(beat) < epoch
}

func modelFenced(w impl.World, i int) bool {
	if !modelWorldOk(w) || i < 0 || i >= len(w.Guests) || w.Guests[i].Epoch == 0 {
		return false
	}
	reg := valOf(w.Words[3+w.Guests[i].Slot])
	return reg%4 == out || reg/4 != w.Guests[i].Epoch
}

func modelDead(w []uint64) []int {
	c, known := modelHouse(w)
	if !known || len(w) != sizeOf(c) {
		return nil
	}
	var dead []int
	for slot := range c.Slots {
		if valOf(w[regAt(c, slot)])%4 == cut || modelOver(w, slot) {
			dead = append(dead, slot)
		}
	}
	return dead
}

// The calls of the chapter, with what is handed in looked at.

// termOf is what is left of a slot's lease, and whether it is over.
func termOf(t *testing.T, w []uint64, slot int) (int, bool) {
	t.Helper()
	lent, asTheyWere := lendWords(w)
	left, over := impl.TermLeft(lent, slot), impl.TermOver(lent, slot)
	if impl.TermLeft(lent, slot) != left || impl.TermOver(lent, slot) != over || !asTheyWere() {
		t.Fatalf("slot %d: not the same once more, or the words are not as they were: %x", slot, w)
	}
	return left, over
}

func termFenced(t *testing.T, w impl.World, i int) bool {
	t.Helper()
	_, got := vowAsked(t, w, func(w impl.World) (int, bool) { return i, impl.TermFenced(w, i) })
	return got
}

func termDead(t *testing.T, w []uint64) []int {
	t.Helper()
	lent, asTheyWere := lendWords(w)
	got := impl.TermDead(lent)
	dead := slices.Clone(got)
	spoilList(got)
	if again := impl.TermDead(lent); !slices.Equal(again, dead) || !asTheyWere() {
		t.Fatalf("%v, then %v, or the words are not as they were: %x", dead, again, w)
	}
	return dead
}

// seeTerm holds a slot's lease against the model, and both against what is
// expected.
func seeTerm(t *testing.T, why string, w []uint64, slot int, left int, over bool) {
	t.Helper()
	if n, is := termOf(t, w, slot); n != left || is != over {
		t.Fatalf("%s, slot %d: left %d, over %v, not %d, %v: %x", why, slot, n, is, left, over, w)
	}
	if n, is := modelLeft(w, slot), modelOver(w, slot); n != left || is != over {
		t.Fatalf("%s, slot %d, by the model: left %d, over %v, not %d, %v: %x", why, slot, n, is, left, over, w)
	}
}

// seeFenced holds a guest against the model, and both against what is expected.
func seeFenced(t *testing.T, why string, w impl.World, i int, want bool) {
	t.Helper()
	if got := termFenced(t, w, i); got != want || modelFenced(w, i) != want {
		t.Fatalf("%s, guest %d: %v, and by the model %v: %+v", why, i, got, modelFenced(w, i), w)
	}
}

// seeDeadSlots holds who is dead against the model, and both against what is expected.
func seeDeadSlots(t *testing.T, why string, w []uint64, want ...int) {
	t.Helper()
	if got := termDead(t, w); !slices.Equal(got, want) || !slices.Equal(modelDead(w), want) {
		t.Fatalf("%s: %v, and by the model %v, not %v: %x", why, got, modelDead(w), want, w)
	}
}

// seeTerms holds all calls of the chapter against the model.
func seeTerms(t *testing.T, why string, w impl.World) {
	t.Helper()
	for slot := -1; slot <= mostSlots; slot++ {
		seeTerm(t, why, w.Words, slot, modelLeft(w.Words, slot), modelOver(w.Words, slot))
	}
	for i := -1; i <= len(w.Guests); i++ {
		seeFenced(t, why, w, i, modelFenced(w, i))
	}
	seeDeadSlots(t, why, w.Words, modelDead(w.Words)...)
}
