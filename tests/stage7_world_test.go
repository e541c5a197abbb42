package tests

import (
	"math"
	"slices"
	"testing"

	"loop.example/hostel/impl"
)

func TestLimitsOfWorlds(t *testing.T) {
	got := []int{impl.WorldBorn, impl.WorldDies, impl.WorldAsks, impl.WorldSteps, impl.WorldTicks,
		impl.WorldMax, impl.WorldMaxSteps, impl.WorldMaxTicks}
	if !slices.Equal(got, []int{1, 2, 3, 4, 5, 6, 400, 1000}) {
		t.Error(got)
	}
}

// WorldOpen of every house, the least and the greatest of them in figures.
func TestOpenWorlds(t *testing.T) {
	for _, c := range everyHouse() {
		want := make([]uint64, sizeOf(c))
		want[0], want[2] = firstOf(c), doorOf(doorFree, 0, 0, 1)
		for range 2 { // what is answered is written over, and answered once more
			w := impl.WorldOpen(c)
			if !slices.Equal(w.Words, want) || len(w.Guests) != 0 || !impl.WorldOk(w) {
				t.Fatalf("%v: %v", c, w)
			}
			spoilWorld(w)
		}
	}
	least := impl.WorldOpen(impl.PlatCfg{Slots: 1, Pages: 1, Lease: 1})
	if len(least.Words) != 47 || least.Words[0] != 201115<<32+1+8+64 || least.Words[2] != 1<<32 {
		t.Errorf("%x", least.Words)
	}
	greatest := impl.WorldOpen(impl.PlatCfg{Slots: 4, Pages: 6, Lease: 20})
	if len(greatest.Words) != 201 || greatest.Words[0] != 201115<<32+4+48+1280 {
		t.Errorf("%x", greatest.Words)
	}
}

func TestOpenWorldsOfNoHouse(t *testing.T) {
	for _, c := range wrongHouses() {
		if w := impl.WorldOpen(c); !isNoWorld(w) || impl.WorldOk(w) {
			t.Errorf("%v: %v", c, w)
		}
	}
}

// sceneWorld is the scene of the guests' tests, with guests.
func sceneWorld(guests ...impl.Guest) impl.World {
	return impl.World{Words: scene(), Guests: guests}
}

// somebody is so many guests that are ok in the scene, at places far and wide.
func somebody(many int) []impl.Guest {
	var out []impl.Guest
	for n := range many {
		g := guestAt([]int{pcIdle, pcSee, pcCut, pcWrite, pcCarry, pcBeat, pcDoor}[n%7])
		g.Up = n%3 != 2
		out = append(out, g)
	}
	return out
}

// seeWorldOk asks whether a world is ok, and what all calls answer if it is not.
func seeWorldOk(t *testing.T, why string, w impl.World, want bool) {
	t.Helper()
	if got := worldOk(t, w); got != want || modelWorldOk(w) != want {
		t.Fatalf("%s: %v, and by the model %v: %+v", why, got, modelWorldOk(w), w)
	}
	if want {
		return
	}
	for i := -1; i <= len(w.Guests); i++ {
		if x, did := worldOne(t, w, i); !isNoWorld(x) || did != didNothing {
			t.Fatalf("%s: WorldOne of %d: %v, %d", why, i, x, did)
		}
	}
	for kind := -1; kind <= 6; kind++ {
		for i := range 2 {
			e := impl.WorldEvent{Kind: kind, I: i, N: 1, Call: enters}
			if x := worldDo(t, w, e); !isNoWorld(x) {
				t.Fatalf("%s: %v: %v", why, e, x)
			}
			if x := worldPlay(t, w, []impl.WorldEvent{e, e}); !isNoWorld(x) {
				t.Fatalf("%s: %v twice: %v", why, e, x)
			}
		}
	}
	if x := worldPlay(t, w, nil); !isNoWorld(x) {
		t.Fatalf("%s: no events: %v", why, x)
	}
	if b, ok := worldBook(t, w); ok || !isNothing(b) {
		t.Fatalf("%s: a book: %v", why, b)
	}
}

// Words that are not those of a house, with guests and without.
func TestWorldsOfNoHouse(t *testing.T) {
	c := deskHouse
	for _, guests := range [][]impl.Guest{nil, somebody(1), somebody(mostGuests)} {
		seeWorldOk(t, "a world", impl.World{Words: scene(), Guests: guests}, true)
		for _, n := range []int{0, 1, 3, deskAt(c, 0), sizeOf(c) - 1, sizeOf(c) + 1, sizeOf(c) + 40} {
			w := append(scene(), make([]uint64, 40)...)[:n]
			seeWorldOk(t, "so many words", impl.World{Words: w, Guests: guests}, false)
		}
		seeWorldOk(t, "no words", impl.World{Guests: guests}, false)
		for _, first := range wrongFirstWords(c) {
			seeWorldOk(t, "another first word", impl.World{Words: words{0: first}.in(scene()), Guests: guests}, false)
		}
	}
}

// No guest, one, six, seven and many.
func TestSoManyGuests(t *testing.T) {
	for many := range 20 {
		seeWorldOk(t, "so many guests", sceneWorld(somebody(many)...), many <= 6)
	}
	var none []impl.Guest
	seeWorldOk(t, "nobody", impl.World{Words: scene(), Guests: none}, true)
	seeWorldOk(t, "nobody", impl.World{Words: scene(), Guests: []impl.Guest{}}, true)
	seeWorldOk(t, "a hundred", sceneWorld(make([]impl.Guest, 100)...), false)
	seeWorldOk(t, "six of nothing", sceneWorld(make([]impl.Guest, 6)...), true)
	seeWorldOk(t, "seven of nothing", sceneWorld(make([]impl.Guest, 7)...), false)
}

// A guest that is not ok, among others that are, at each place.
func TestAGuestThatIsNotOk(t *testing.T) {
	c := deskHouse
	broken := map[string]change{
		"busy and idle":  func(g *impl.Guest) { g.Busy = true },
		"idle and busy":  func(g *impl.Guest) { g.Pc = pcBeat },
		"no place":       func(g *impl.Guest) { g.Busy, g.Pc = true, 27 },
		"another's call": func(g *impl.Guest) { g.Busy, g.Pc, g.Op.Slot = true, pcBeat, 2 },
		"slot 3 of 3":    func(g *impl.Guest) { g.Slot, g.Op.Slot = 3, 3 },
		"slot -1":        func(g *impl.Guest) { g.Slot, g.Op.Slot = -1, -1 },
		"much seen":      func(g *impl.Guest) { g.Snap = make([]uint64, deskAt(c, 0)+1) },
		"much planned":   func(g *impl.Guest) { g.Plan = make([]uint64, 21) },
		"dead, not ok":   func(g *impl.Guest) { g.Up, g.Time = false, -1 },
	}
	for _, number := range numbersOfGuests(c) {
		broken[number.name+" below 0"] = func(g *impl.Guest) { *number.of(g) = -1 }
		broken[number.name+" above all"] = func(g *impl.Guest) { *number.of(g) = number.most + 1 }
	}
	for why, how := range broken {
		for at := range mostGuests {
			guests := somebody(mostGuests)
			guests[at] = with(guestAt(pcIdle), how)
			seeWorldOk(t, why, sceneWorld(guests...), false)
		}
	}
}

// Guests of each slot in houses of all sizes: up, dead, idle and busy.
func TestSlotsOfWorlds(t *testing.T) {
	for _, c := range everyHouse() {
		if c.Lease > 2 {
			continue
		}
		for slot := -1; slot <= mostSlots; slot++ {
			for _, g := range []impl.Guest{
				{Up: true, Slot: slot},
				{Slot: slot},
				{Up: true, Slot: slot, Busy: true, Pc: pcReg, Op: impl.BookOp{Kind: enters, Slot: slot}},
			} {
				w := impl.World{Words: impl.PlatFormat(c), Guests: []impl.Guest{{Up: true}, g}}
				seeWorldOk(t, "slot", w, between(slot, 0, c.Slots-1))
			}
		}
	}
}

// WorldOne of guests that there are not.
func TestStepsOfNoGuest(t *testing.T) {
	for many := range mostGuests + 1 {
		w := sceneWorld(somebody(many)...)
		for _, i := range []int{math.MinInt, -many, -2, -1, many, many + 1, 6, 7, math.MaxInt} {
			if i >= 0 && i < many {
				continue
			}
			got, did := seeOne(t, "no guest", w, i)
			if !sameWorld(got, w) || did != didNothing {
				t.Errorf("guest %d of %d: %v, %d", i, many, got, did)
			}
			for _, e := range []impl.WorldEvent{diesOf(i), asksOf(i, enters, 0, 0), stepsOf(i, 1), stepsOf(i, 400)} {
				if got := seeDo(t, "no guest", w, e); !sameWorld(got, w) {
					t.Errorf("%v: %v", e, got)
				}
			}
		}
	}
}

// WorldOne of a guest that is not up, of one that is not busy, and of one beside
// them: nothing but that one's word and it itself is another.
func TestStepsOfOneAmongOthers(t *testing.T) {
	w := sceneWorld(
		caller(pcHold, func(g *impl.Guest) { g.Up, g.Door, g.Seq = false, doorOf(doorFree, 0, 0, 20), 20 }),
		impl.GuestNew(1),
		caller(pcHold, func(g *impl.Guest) { g.Door, g.Seq = doorOf(doorFree, 0, 0, 20), 20 }),
		comer(pcReg, nil),
	)
	for _, i := range []int{0, 1} {
		if got, did := seeOne(t, "dead or idle", w, i); !sameWorld(got, w) || did != didNothing {
			t.Errorf("guest %d: %v, %d", i, got, did)
		}
	}
	got, did := seeOne(t, "holds", w, 2)
	want := copyWorld(w)
	want.Words[2] = doorOf(doorHeld, 0, 2, 20)
	want.Guests[2].Pc = pcSee
	if !sameWorld(got, want) || did != didNothing {
		t.Errorf("%v, %d", got, did)
	}
	got, did = seeOne(t, "comes", w, 3)
	want = copyWorld(w)
	want.Guests[3].Entry, want.Guests[3].Next, want.Guests[3].Pc = scene()[5], 5, pcMark
	if !sameWorld(got, want) || did != didNothing {
		t.Errorf("%v, %d", got, did)
	}
}

// doing is a step of the guest 1, and what it has done.
type doing struct {
	why   string
	g     impl.Guest
	has   words
	turns words
	to    impl.Guest
	did   int
}

// doings are steps with each of what a step may have done, and such that end the
// call.
func doings() []doing {
	signed := func(g *impl.Guest) { g.Entry, g.Next = wordOf(16, 3), 5 }
	planned := func(g *impl.Guest) { g.Seq = 20 }
	watching := func(g *impl.Guest) { g.Seq, g.Who, g.WhoE, g.Was = 20, 1, 1, wordOf(5, 3) }
	held := words{2: doorOf(doorHeld, 0, 2, 20)}
	other := words{2: doorOf(doorHeld, 1, 1, 20)}
	done := doorOf(doorDone, 0, 2, 20)
	reaper := func(pc int) impl.Guest {
		return caller(pc, func(g *impl.Guest) {
			g.Op, g.Seq = impl.BookOp{Kind: reaps, Slot: 0, A: 1}, 20
			g.Snap = slices.Clone(withoutDesks(deskHouse, held.in(scene())))
		})
	}
	cutOff := with(reaper(pcDesk), func(g *impl.Guest) {
		g.Snap[4], g.Who, g.Plan, g.Code, g.Val = wordOf(6, 3), 1, []uint64{changeOf(4, 4, 20)}, codeDone, 0
	})
	return []doing{
		{"nothing", caller(pcBeat, nil), nil, nil, caller(pcClock, func(g *impl.Guest) { g.Was = wordOf(48, 2) }), 0},
		{"turned", caller(pcTurn, planned), held, words{2: done}, caller(pcOpen, func(g *impl.Guest) { g.Seq, g.Own, g.Door = 20, true, done }), 1},
		{"cut off", reaper(pcCut), held, words{4: wordOf(6, 3)}, cutOff, 2},
		{"fenced", caller(pcFence, watching), other, words{4: wordOf(6, 3)}, caller(pcDoor, watching), 2},
		{"broke", caller(pcBreak, watching), other, words{2: doorOf(doorFree, 0, 0, 21)}, caller(pcDoor, watching), 3},
		{"joined, answered", comer(pcJoin, signed), nil, words{5: wordOf(21, 3)},
			with(ended(comer(0, nil), codeDone, 5), func(g *impl.Guest) { g.Epoch = 5 }), 4},
		{"yielded, answered", caller(pcYield, planned), held, words{2: doorOf(doorFree, 0, 0, 21)}, ended(caller(0, nil), 7, 0), 0},
		{"opened, answered", caller(pcOpen, func(g *impl.Guest) { g.Seq, g.Own, g.Door = 20, true, done }),
			words{2: done}, words{2: doorOf(doorFree, 0, 0, 21)}, ended(caller(0, nil), 7, 3), 0},
		{"not turned, answered", caller(pcTurn, planned), nil, nil, ended(caller(0, nil), codeFenced, 0), 0},
		{"not joined", comer(pcJoin, signed), words{5: wordOf(17, 3)}, nil, comer(pcReg, signed), 0},
	}
}

func TestWhatStepsHaveDone(t *testing.T) {
	met := map[int]bool{}
	for _, s := range doings() {
		w := impl.World{Words: s.has.in(scene()), Guests: []impl.Guest{guestAt(pcSee), s.g, guestAt(pcCarry)}}
		want := copyWorld(w)
		want.Words, want.Guests[1] = s.turns.in(w.Words), s.to
		got, did := seeOne(t, s.why, w, 1)
		if !sameWorld(got, want) || did != s.did {
			t.Errorf("%s: did %d, not %d\n%+v\nnot\n%+v", s.why, did, s.did, got, want)
		}
		if got := seeDo(t, s.why, w, stepsOf(1, 1)); !sameWorld(got, want) {
			t.Errorf("%s, one step: %+v", s.why, got)
		}
		met[did] = true
		if s.to.Busy {
			continue
		}
		// Behind its answer there is nothing to be done.
		if again, did := seeOne(t, s.why, got, 1); !sameWorld(again, got) || did != didNothing {
			t.Errorf("%s: behind its answer: %d, %+v", s.why, did, again)
		}
	}
	if len(met) != 5 {
		t.Error(met)
	}
}

// A change of the first word is planned by no call; but a guest may be handed
// one. It leaves a world, though, whatever is on a desk.
func TestAChangeOfTheFirstWord(t *testing.T) {
	door := doorOf(doorDone, 1, 1, 300000)
	for why, val := range map[string]int{"no house": 0, "a greater house": 4 + 48 + 1280, "the same value": 3 + 16 + 256} {
		w := sceneWorld(guestOf(0, 2), caller(pcDoor, nil))
		w.Words = words{2: door, 68: wordOf(1, 300000), 69: changeOf(0, val, 300000)}.in(w.Words)
		for range 3 {
			w = seeDo(t, why, w, stepsOf(1, 7))
			if !slices.Equal(withoutDesks(deskHouse, w.Words), words{2: door}.in(withoutDesks(deskHouse, scene()))) {
				t.Errorf("%s: %x", why, w.Words)
			}
		}
		for _, e := range []impl.WorldEvent{ticksOf(1), bornAt(2), asksOf(0, takes, 1, 0), diesOf(1)} {
			w = seeDo(t, why, w, e)
		}
		if len(w.Guests) != 3 || w.Guests[1].Up || !w.Guests[0].Busy || valOf(w.Words[1]) != 51 {
			t.Errorf("%s: %+v", why, w)
		}
	}
	// With the house's own stamp it may become another house that is as large.
	g := caller(pcCarry, func(g *impl.Guest) {
		g.Was, g.Entry, g.Seq, g.N, g.K = scene()[0], changeOf(0, 3+16+64*20, magic), magic, 1, 1
	})
	w := seeDo(t, "another lease", sceneWorld(g), stepsOf(0, 1))
	if w.Words[0] != firstOf(impl.PlatCfg{Slots: 3, Pages: 2, Lease: 20}) || w.Guests[0].Pc != pcOpen {
		t.Errorf("%+v", w)
	}
}
