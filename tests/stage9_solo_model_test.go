package tests

import (
	"testing"

	"loop.example/hostel/impl"
)

// From here on: the chapter once more, as plainly as can be.

func modelMost(c impl.PlatCfg) int {
	if !between(c.Slots, 1, mostSlots) || !between(c.Pages, 1, mostPages) || !between(c.Lease, 1, mostLease) {
		return 0
	}
	return deskAt(c, 0) + 260
}

// modelAlone is as many steps of a guest as it is up and busy.
func modelAlone(w impl.World, i int) (impl.World, int) {
	c, _ := modelHouse(w.Words)
	n := 0
	for w.Guests[i].Up && w.Guests[i].Busy && n < modelMost(c) {
		w, _ = modelOne(w, i)
		n++
	}
	return w, n
}

func modelSoloRun(w impl.World, i int) (impl.World, int) {
	if !modelWorldOk(w) || i < 0 || i >= len(w.Guests) {
		return impl.World{}, 0
	}
	c, _ := modelHouse(w.Words)
	return modelAlone(modelHappens(w, ticksOf(c.Lease+1)), i)
}

func modelSoloReap(w impl.World, i int, slot int) (impl.World, int) {
	if !modelWorldOk(w) || i < 0 || i >= len(w.Guests) {
		return impl.World{}, 0
	}
	c, _ := modelHouse(w.Words)
	w = modelHappens(w, ticksOf(c.Lease+1))
	more := 0
	for more <= len(w.Words) {
		asked := modelHappens(w, asksOf(i, reaps, slot, 0))
		w, _ = modelAlone(asked, i)
		if w.Guests[i].Count == asked.Guests[i].Count || w.Guests[i].Code != codeMore {
			break
		}
		more++
	}
	return w, more
}

// The calls of the chapter, with their memory looked at.

// soloCall is what a call answers of a world, twice: the first answer has been
// written over by then.
func soloCall(t *testing.T, what any, w impl.World, call func(w impl.World) (impl.World, int)) (impl.World, int) {
	t.Helper()
	many := [2]int{}
	var answers [2]impl.World
	for n := range answers {
		answers[n] = worldCall(t, what, w, func(w impl.World) (x impl.World) {
			x, many[n] = call(w)
			return x
		})
	}
	if many[0] != many[1] || !sameWorld(answers[0], answers[1]) {
		t.Fatalf("%v: another answer: %d, %+v, not %d, %+v", what, many[1], answers[1], many[0], answers[0])
	}
	return answers[0], many[0]
}

func soloRun(t *testing.T, w impl.World, i int) (impl.World, int) {
	t.Helper()
	return soloCall(t, i, w, func(w impl.World) (impl.World, int) { return impl.SoloRun(w, i) })
}

func soloReap(t *testing.T, w impl.World, i int, slot int) (impl.World, int) {
	t.Helper()
	return soloCall(t, [2]int{i, slot}, w, func(w impl.World) (impl.World, int) { return impl.SoloReap(w, i, slot) })
}

// seeRun holds a guest that goes on alone against the model.
func seeRun(t *testing.T, why string, w impl.World, i int) (impl.World, int) {
	t.Helper()
	want, wantMany := modelSoloRun(w, i)
	got, many := soloRun(t, w, i)
	if !sameWorld(got, want) || many != wantMany {
		t.Fatalf("%s, guest %d: %d steps, not %d\n%+v\nnot\n%+v", why, i, many, wantMany, got, want)
	}
	return got, many
}

// seeReap holds a guest that reaps alone against the model.
func seeReap(t *testing.T, why string, w impl.World, i int, slot int) (impl.World, int) {
	t.Helper()
	want, wantMany := modelSoloReap(w, i, slot)
	got, many := soloReap(t, w, i, slot)
	if !sameWorld(got, want) || many != wantMany {
		t.Fatalf("%s, guest %d, slot %d: %d rooms, not %d\n%+v\nnot\n%+v", why, i, slot, many, wantMany, got, want)
	}
	return got, many
}
