package tests

import (
	"maps"
	"math"
	"slices"
	"testing"

	"loop.example/hostel/impl"
)

// SoloMost of every house, the least and the greatest of them in figures: a lease
// is no matter.
func TestMostStepsAlone(t *testing.T) {
	for _, c := range everyHouse() {
		if got := impl.SoloMost(c); got != modelMost(c) || got != 267+2*c.Slots+17*c.Pages {
			t.Errorf("%v: %d", c, got)
		}
	}
	for c, want := range map[impl.PlatCfg]int{
		{Slots: 1, Pages: 1, Lease: 1}:  286,
		{Slots: 1, Pages: 1, Lease: 20}: 286,
		{Slots: 4, Pages: 6, Lease: 20}: 377,
		deskHouse:                       307,
	} {
		if got := impl.SoloMost(c); got != want {
			t.Errorf("%v: %d, not %d", c, got, want)
		}
	}
	for _, c := range append(wrongHouses(), impl.PlatCfg{}) {
		if got := impl.SoloMost(c); got != 0 {
			t.Errorf("%v: %d", c, got)
		}
	}
}

// noWorlds are worlds that are not ok, each with a guest that could go on.
func noWorlds() map[string]impl.World {
	c := deskHouse
	guests := []impl.Guest{caller(pcBeat, nil), guestOf(1, 1)}
	seven := append(somebody(mostGuests), caller(pcBeat, nil))
	return map[string]impl.World{
		"nothing":          {},
		"no words":         {Guests: guests},
		"no desks":         {Words: withoutDesks(c, scene()), Guests: guests},
		"a word too few":   {Words: scene()[:sizeOf(c)-1], Guests: guests},
		"a word too many":  {Words: append(scene(), 0), Guests: guests},
		"another stamp":    {Words: words{0: wordOf(valOf(firstOf(c)), magic+1)}.in(scene()), Guests: guests},
		"no lease":         {Words: words{0: wordOf(3+16, magic)}.in(scene()), Guests: guests},
		"a lease of 21":    {Words: words{0: wordOf(3+16+64*21, magic)}.in(scene()), Guests: guests},
		"seven guests":     {Words: scene(), Guests: seven},
		"it is not ok":     sceneWorld(with(guests[0], func(g *impl.Guest) { g.K = -1 }), guests[1]),
		"one is not ok":    sceneWorld(guests[0], with(guests[1], func(g *impl.Guest) { g.Busy = true })),
		"one of no slot":   sceneWorld(guests[0], impl.GuestNew(3)),
		"one dead, not ok": sceneWorld(guests[0], impl.Guest{Slot: -1}),
	}
}

func TestNobodyIsAloneInNoWorld(t *testing.T) {
	for why, w := range noWorlds() {
		for i := -1; i <= len(w.Guests); i++ {
			if x, n := seeRun(t, why, w, i); !isNoWorld(x) || n != 0 {
				t.Errorf("%s: SoloRun of %d: %d, %+v", why, i, n, x)
			}
			for slot := -1; slot <= 3; slot++ {
				if x, n := seeReap(t, why, w, i, slot); !isNoWorld(x) || n != 0 {
					t.Errorf("%s: SoloReap of %d, slot %d: %d, %+v", why, i, slot, n, x)
				}
			}
		}
	}
}

func TestNoSuchGuestIsAlone(t *testing.T) {
	for many := range mostGuests + 1 {
		w := sceneWorld(somebody(many)...)
		for _, i := range []int{math.MinInt, -1 << 32, -many - 1, -many, -2, -1, many, many + 1, 6, 7, 1 << 32, math.MaxInt} {
			if i >= 0 && i < many {
				continue
			}
			if x, n := seeRun(t, "no guest", w, i); !isNoWorld(x) || n != 0 {
				t.Errorf("guest %d of %d: %d, %+v", i, many, n, x)
			}
			if x, n := seeReap(t, "no guest", w, i, 1); !isNoWorld(x) || n != 0 {
				t.Errorf("guest %d of %d reaps: %d, %+v", i, many, n, x)
			}
		}
	}
}

// Who is not up, or not busy, makes no step; but the clock has ticked, and nobody
// else is another.
func TestNoStepsAlone(t *testing.T) {
	told := ended(caller(0, nil), codeMore, 4)
	for why, g := range map[string]impl.Guest{
		"dead and busy":          caller(pcDoor, func(g *impl.Guest) { g.Up = false }),
		"dead, at its end":       caller(pcOpen, func(g *impl.Guest) { g.Up, g.Own = false, true }),
		"dead and idle":          with(told, func(g *impl.Guest) { g.Up = false }),
		"new":                    impl.GuestNew(2),
		"nothing":                {},
		"idle, and was told":     told,
		"idle, with all it knew": with(guestAt(pcSee), func(g *impl.Guest) { g.Busy, g.Pc = false, pcIdle }),
	} {
		w := sceneWorld(caller(pcBeat, nil), g, comer(pcReg, nil))
		want := copyWorld(w)
		want.Words[1] = wordOf(55, 0)
		if got, n := seeRun(t, why, w, 1); n != 0 || !sameWorld(got, want) {
			t.Errorf("%s: %d steps, %+v", why, n, got)
		}
	}
}

// aloneTo is a guest 1 that goes on alone in the scene, and what it comes to.
type aloneTo struct {
	why   string
	g     impl.Guest
	op    impl.BookOp
	has   words
	code  int
	val   int
	steps int
}

func seeAloneTo(t *testing.T, all []aloneTo) {
	t.Helper()
	for _, s := range all {
		w := impl.World{Words: s.has.in(scene()), Guests: []impl.Guest{guestAt(pcSee), s.g, guestAt(pcCarry)}}
		if s.op.Kind != 0 {
			w.Guests[1] = impl.GuestAsk(s.g, s.op)
		}
		got, n := seeRun(t, s.why, w, 1)
		g := got.Guests[1]
		if n != s.steps || g.Busy || g.Code != s.code || g.Val != s.val || g.Count != 12 {
			t.Errorf("%s: %d steps, not %d: %+v", s.why, n, s.steps, g)
		}
		if valOf(got.Words[1]) != valOf(w.Words[1])+5 || !sameGuest(got.Guests[0], w.Guests[0]) || !sameGuest(got.Guests[2], w.Guests[2]) {
			t.Errorf("%s: %+v", s.why, got)
		}
	}
}

// A call of each kind from its asking on, in figures: three steps to beat, two at
// the door, 47 to see, two for the first word of the desk, four for each change,
// two to turn and to open; one to cut off, or to yield.
func TestRunsOfCalls(t *testing.T) {
	op := func(kind int, a int, b int) impl.BookOp { return impl.BookOp{Kind: kind, A: a, B: b} }
	zero, one, two := guestOf(0, 2), guestOf(1, 1), guestOf(2, 0)
	seeAloneTo(t, []aloneTo{
		{"it comes in", two, op(enters, 0, 0), nil, codeDone, 5, 5},
		{"it comes in where somebody is", guestOf(0, 0), op(enters, 0, 0), nil, codeTaken, 0, 1},
		{"it takes", zero, op(takes, 2, 0), nil, codeDone, 2, 56 + 4*3},
		{"it takes a page", one, op(takes, 7, 0), nil, codeDone, 8, 56 + 4*2},
		{"it takes too much", zero, op(takes, 33, 0), nil, codeSize, 0, 56},
		{"it gives back", zero, op(gives, 0, 0), nil, codeDone, 0, 56 + 4*5},
		{"it hands on", zero, op(hands, 0, 1), nil, codeDone, 0, 56 + 4},
		{"it hands on to nobody", zero, op(hands, 0, 2), nil, codeWhom, 0, 53},
		{"it leaves", one, op(leaves, 0, 0), nil, codeDone, 0, 56 + 4},
		{"it reaps whose lease is over now", zero, op(reaps, 1, 0), nil, codeDone, 0, 57 + 4},
		{"it reaps who has a room", one, op(reaps, 0, 0), nil, codeMore, 0, 57 + 4*5},
		{"it reaps itself", zero, op(reaps, 0, 0), nil, codeLives, 0, 53},
		{"one behind it is in", guestOf(0, 1), op(takes, 1, 0), nil, codeFenced, 0, 1},
		{"the door is worn", zero, op(takes, 1, 0), words{2: doorOf(doorFree, 0, 0, 1000000)}, codeWorn, 0, 4},
	})
}

// Somebody has died with the door: it is cut off, the door is broken open, or
// what it has done is carried out; in figures.
func TestRunsBehindTheDead(t *testing.T) {
	take := impl.BookOp{Kind: takes, A: 2}
	zero := guestOf(0, 2)
	held := words{2: doorOf(doorHeld, 1, 1, 20)}
	cutOff := words{2: doorOf(doorHeld, 1, 1, 20), 4: regOf(cut, 1, 3)}
	left := words{2: doorOf(doorHeld, 2, 3, 20)}
	done := words{2: doorOf(doorDone, 1, 1, 20), 68: wordOf(3, 20), 69: changeOf(headAt(deskHouse, 1), 5, 20),
		70: changeOf(tagAt(deskHouse, 2), 2, 20), 71: changeOf(linkAt(deskHouse, 2), 0, 20)}
	part, off := maps.Clone(done), maps.Clone(done)
	part[headAt(deskHouse, 1)] = wordOf(5, 20)
	off[4] = regOf(cut, 1, 3)
	seeAloneTo(t, []aloneTo{
		{"it is fenced, and the door broken", zero, take, held, codeDone, 2, 56 + 4*3 + 8},
		{"the door is broken", zero, take, cutOff, codeDone, 2, 56 + 4*3 + 3},
		{"another one was in then", zero, take, left, codeDone, 2, 56 + 4*3 + 3},
		{"it is helped", zero, take, done, codeDone, 4, 56 + 4*3 + 3 + 3*3},
		{"it is helped with the rest", zero, take, part, codeDone, 4, 56 + 4*3 + 3 + 3*3 - 1},
		{"it has done, and was cut off", zero, take, off, codeDone, 4, 56 + 4*3 + 3 + 3*3},
	})
}

// Who stands anywhere in its call, and is answered by its first step.
func TestAnsweredByTheFirstStep(t *testing.T) {
	answered := 0
	for _, s := range doings() {
		if s.to.Busy {
			continue
		}
		answered++
		w := impl.World{Words: s.has.in(scene()), Guests: []impl.Guest{guestAt(pcSee), s.g, guestAt(pcCarry)}}
		want := copyWorld(w)
		want.Words, want.Guests[1] = words{1: wordOf(55, 0)}.in(s.turns.in(w.Words)), s.to
		if got, n := seeRun(t, s.why, w, 1); n != 1 || !sameWorld(got, want) {
			t.Errorf("%s: %d steps\n%+v\nnot\n%+v", s.why, n, got, want)
		}
	}
	if answered < 4 {
		t.Errorf("%d are answered", answered)
	}
}

// neverAnswered are worlds of a guest 1 that goes round and round: words that no
// events lead to.
func neverAnswered() map[string]impl.World {
	looks := func(entry uint64, seq int) impl.Guest {
		return caller(pcLook, func(g *impl.Guest) { g.Entry, g.Seq, g.N, g.K = entry, seq, 1, 1 })
	}
	ahead := words{2: doorOf(doorHeld, 1, 1, 20), 7: wordOf(47, 2)}.in(scene())
	nobody := words{2: doorOf(doorDone, 1, 1, 20), 68: wordOf(3, 19)}.in(scene())
	others := words{2: doorOf(doorDone, 1, 1, 20), 68: wordOf(1, 20), 69: changeOf(20, 1, 21)}.in(scene())
	return map[string]impl.World{
		"a holder that is always ahead of itself": {Words: ahead, Guests: []impl.Guest{guestOf(1, 1), caller(pcDoor, nil)}},
		"a desk that was never written":           {Words: nobody, Guests: []impl.Guest{guestOf(1, 1), caller(pcBeat, nil)}},
		"a desk of another one":                   {Words: others, Guests: []impl.Guest{guestOf(1, 1), caller(pcBeat, nil)}},
		"a change of no word":                     sceneWorld(guestOf(1, 1), looks(changeOf(4000, 1, 20), 20)),
		"a change that leaves no house":           sceneWorld(guestOf(1, 1), looks(changeOf(0, 0, 300000), 300000)),
	}
}

// Who is not answered makes SoloMost steps, and not one more.
func TestNeverAnswered(t *testing.T) {
	for why, w := range neverAnswered() {
		got, n := seeRun(t, why, w, 1)
		if n != 307 || !got.Guests[1].Busy || got.Guests[1].Count != 11 {
			t.Errorf("%s: %d steps, %+v", why, n, got.Guests[1])
		}
		want := impl.WorldPlay(w, []impl.WorldEvent{ticksOf(5), stepsOf(1, 307)})
		if !sameWorld(got, want) {
			t.Errorf("%s: %+v\nnot\n%+v", why, got, want)
		}
		// Another run goes on from there.
		if again, n := seeRun(t, why, got, 1); n != 307 || valOf(again.Words[1]) != 60 {
			t.Errorf("%s, once more: %d steps, %+v", why, n, again)
		}
	}
	// In the least and the greatest house, and one step ahead of an answer.
	for _, c := range []impl.PlatCfg{{Slots: 1, Pages: 1, Lease: 1}, {Slots: 4, Pages: 6, Lease: 20}} {
		w := impl.World{Words: impl.PlatFormat(c), Guests: []impl.Guest{{Up: true, Epoch: 1, Busy: true, Pc: pcDoor, Op: impl.BookOp{Kind: leaves}}}}
		w.Words[2], w.Words[regAt(c, 0)], w.Words[beatAt(c, 0)] = doorOf(doorHeld, 0, 1, 7), regOf(live, 1, 0), wordOf(0, 2)
		if _, n := seeRun(t, "it waits for itself", w, 0); n != impl.SoloMost(c) || n != modelMost(c) {
			t.Errorf("%v: %d steps", c, n)
		}
	}
}

// A lease that is not over: near the end of the clock it ticks less.
func TestRunsNearTheEndOfTheClock(t *testing.T) {
	for clock, steps := range map[int]int{
		mostVal - 6: 76, mostVal - 5: 76, mostVal - 4: 307, mostVal - 1: 307, mostVal: 307,
	} {
		w := sceneWorld(impl.GuestAsk(guestOf(0, 2), impl.BookOp{Kind: takes, A: 2}))
		w.Words = words{1: wordOf(clock, 0), 2: doorOf(doorHeld, 1, 1, 20), 7: wordOf(clock, 1)}.in(w.Words)
		got, n := seeRun(t, "near the end of the clock", w, 0)
		if n != steps || got.Guests[0].Busy != (steps == 307) || valOf(got.Words[1]) != min(clock+5, mostVal) {
			t.Errorf("clock %d: %d steps, %+v", clock, n, got)
		}
	}
	// The stamp of the clock is as it was, and its value the greatest at last.
	w := sceneWorld(impl.GuestNew(0))
	w.Words[1] = wordOf(mostVal-2, 9)
	if got, n := seeRun(t, "a stamp", w, 0); n != 0 || got.Words[1] != wordOf(mostVal, 9) {
		t.Errorf("%d, %x", n, got.Words[1])
	}
}

// The clock ticks by the lease and 1 in each house, and once.
func TestTicksOfRuns(t *testing.T) {
	for lease := 1; lease <= mostLease; lease++ {
		w := impl.WorldOpen(impl.PlatCfg{Slots: 2, Pages: 1, Lease: lease})
		w = impl.WorldPlay(w, []impl.WorldEvent{bornAt(0), asksOf(0, enters, 0, 0)})
		x, n := seeRun(t, "it comes in", w, 0)
		if n != 5 || valOf(x.Words[1]) != lease+1 || x.Guests[0].Code != codeDone {
			t.Errorf("lease %d: %d steps, %+v", lease, n, x)
		}
		if x, n = seeRun(t, "it has come in", x, 0); n != 0 || valOf(x.Words[1]) != 2*lease+2 {
			t.Errorf("lease %d: %d steps, %+v", lease, n, x)
		}
		if x, n = seeReap(t, "nobody is there", x, 0, 1); n != 0 || valOf(x.Words[1]) != 3*lease+3 {
			t.Errorf("lease %d: %d rooms, %+v", lease, n, x)
		}
	}
}

// From each place, of a guest that has seen much, and in worlds that are thrown.
func TestAnyRun(t *testing.T) {
	onOneProcessor(t)
	for pc := pcBeat; pc <= pcYield; pc++ {
		for seq := 19; seq <= 21; seq++ {
			g := with(guestAt(pc), func(g *impl.Guest) { g.Seq, g.Epoch, g.Slot, g.Op.Slot = seq, 2, 0, 0 })
			for _, door := range []uint64{scene()[2], doorOf(doorHeld, 0, 2, 20), doorOf(doorDone, 0, 2, 20), doorOf(doorHeld, 2, 4, 20)} {
				w := sceneWorld(comer(pcReg, nil), g)
				w.Words[2] = door
				seeRun(t, "a place", w, 1)
			}
		}
	}
	d := dice(90)
	ends := map[bool]int{}
	for range 300 {
		w := d.anyWorld()
		for i := range w.Guests {
			c, _ := modelHouse(w.Words)
			_, n := seeRun(t, "thrown", w, i)
			ends[n == modelMost(c)]++
		}
	}
	if ends[true] < 30 || ends[false] < 300 {
		t.Error(ends)
	}
}

// A run is ticks and steps, and one step less is no answer.
func TestRunsAreSteps(t *testing.T) {
	for _, op := range []impl.BookOp{{Kind: takes, A: 2}, {Kind: gives, A: 0}, {Kind: hands, A: 0, B: 1}, {Kind: leaves}, {Kind: reaps, A: 1}} {
		w, _ := alone(t, op)
		got, n := seeRun(t, "a call", w, 0)
		if want := impl.WorldPlay(w, []impl.WorldEvent{ticksOf(5), stepsOf(0, n)}); !sameWorld(got, want) || got.Guests[0].Busy {
			t.Errorf("%v: %+v\nnot\n%+v", op, got, want)
		}
		if less := impl.WorldPlay(w, []impl.WorldEvent{ticksOf(5), stepsOf(0, n-1)}); !less.Guests[0].Busy {
			t.Errorf("%v: answered by %d steps", op, n-1)
		}
		if !slices.Equal(got.Words[:1], w.Words[:1]) {
			t.Errorf("%v: another house", op)
		}
	}
}
