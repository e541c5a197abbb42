package tests

import (
	"slices"
	"testing"

	"loop.example/hostel/impl"
)

// The scene of these tests, in the house of the desks: the register from 3 on,
// beats from 6, heads from 9, pages from 13, owners from 15, links from 31, desks
// from 47 and 21 words each. Slot 0 is in with epoch 2 and has room 0, slot 1 is
// in with epoch 1, slot 2 was left with epoch 4; a lease is 4 ticks.
func scene() []uint64 {
	c := deskHouse
	b := turn(deskBook(), func(b *impl.Book) { b.Epoch[2] = 4 })
	w := standing(c, b, stampThree)
	w[1] = wordOf(50, 0)
	w[2] = doorOf(doorFree, 0, 0, 20)
	w[6], w[7], w[8] = wordOf(48, 2), wordOf(47, 1), wordOf(9, 4)
	return w
}

// words are those of the scene that stand otherwise.
type words map[int]uint64

func (how words) in(w []uint64) []uint64 {
	w = slices.Clone(w)
	for at, word := range how {
		w[at] = word
	}
	return w
}

// change is how a guest differs from another one.
type change func(g *impl.Guest)

func with(g impl.Guest, how change) impl.Guest {
	g = copyGuest(g)
	if how != nil {
		how(&g)
	}
	return g
}

// caller is the guest of slot 0 at a place, taking a room of two units.
func caller(pc int, how change) impl.Guest {
	op := impl.BookOp{Kind: takes, Slot: 0, A: 2}
	return with(impl.Guest{Up: true, Slot: 0, Epoch: 2, Busy: true, Op: op, Pc: pc, Code: 7, Val: 3, Count: 11}, how)
}

// comer is a guest of slot 2 at a place, coming in.
func comer(pc int, how change) impl.Guest {
	op := impl.BookOp{Kind: enters, Slot: 2, A: 8, B: 9}
	return with(impl.Guest{Up: true, Slot: 2, Busy: true, Op: op, Pc: pc, Code: 7, Val: 3, Count: 11}, how)
}

// ended is a guest of these tests with an answer.
func ended(g impl.Guest, code int, val int) impl.Guest {
	return impl.Guest{Up: true, Slot: g.Slot, Epoch: g.Epoch, Op: g.Op, Code: code, Val: val, Count: 12}
}

// stepping is a step: who makes it, in which words, which words turn, what
// becomes of the guest, and what was done.
type stepping struct {
	why   string
	from  impl.Guest
	has   words
	turns words
	to    impl.Guest
	did   int
}

func seeSteps(t *testing.T, all []stepping) {
	t.Helper()
	for _, s := range all {
		w := s.has.in(scene())
		if !modelGuestOk(deskHouse, s.from) || !modelGuestOk(deskHouse, s.to) {
			t.Errorf("%s: the test's guest is not ok", s.why)
		}
		got, g, did := guestStep(t, w, s.from)
		if !slices.Equal(got, s.turns.in(w)) || !sameGuest(g, s.to) || did != s.did {
			t.Errorf("at %d, %s: did %d, not %d\n%+v, not\n%+v\n%x", s.from.Pc, s.why, did, s.did, g, s.to, got)
		}
		seeStep(t, w, s.from)
	}
}

// GuestBeat, GuestClock, GuestPulse.
func TestStepsOfBeating(t *testing.T) {
	beat, clock := caller(pcBeat, nil), caller(pcClock, nil)
	seen := func(was uint64) impl.Guest {
		return with(beat, func(g *impl.Guest) { g.Was, g.Pc = was, pcClock })
	}
	timed := func(time int) impl.Guest {
		return with(clock, func(g *impl.Guest) { g.Time, g.Pc = time, pcPulse })
	}
	pulse := caller(pcPulse, func(g *impl.Guest) { g.Was, g.Time = wordOf(48, 2), 50 })
	old := with(pulse, func(g *impl.Guest) { g.Was = wordOf(48, 1) })
	same := with(pulse, func(g *impl.Guest) { g.Time = 48 })
	goesTo := func(g impl.Guest, pc int) impl.Guest { return with(g, func(g *impl.Guest) { g.Pc = pc }) }
	seeSteps(t, []stepping{
		{"its own beat", beat, nil, nil, seen(wordOf(48, 2)), didNothing},
		{"a beat of the one ahead", beat, words{6: wordOf(99, 1)}, nil, seen(wordOf(99, 1)), didNothing},
		{"nobody's beat", beat, words{6: 0}, nil, seen(0), didNothing},
		{"a beat of the one behind", beat, words{6: wordOf(48, 3)}, nil, ended(beat, codeFenced, 0), didNothing},
		{"a beat far behind", beat, words{6: wordOf(0, mostHalf)}, nil, ended(beat, codeFenced, 0), didNothing},
		{"the clock", clock, nil, nil, timed(50), didNothing},
		{"the clock's stamp", clock, words{1: wordOf(51, 9)}, nil, timed(51), didNothing},
		{"the clock at its end", clock, words{1: wordOf(1048575, 0)}, nil, timed(1048575), didNothing},
		{"the clock past its end", clock, words{1: wordOf(1048576, 0)}, nil, timed(1048575), didNothing},
		{"the clock far past its end", clock, words{1: wordOf(mostHalf, 0)}, nil, timed(1048575), didNothing},
		{"it beats", pulse, nil, words{6: wordOf(50, 2)}, goesTo(pulse, pcDoor), didNothing},
		{"it beats for the first time", old, words{6: wordOf(48, 1)}, words{6: wordOf(50, 2)}, goesTo(old, pcDoor), didNothing},
		{"it has beaten", same, nil, nil, goesTo(same, pcDoor), didNothing},
		{"it had beaten", same, words{6: wordOf(1, 9)}, nil, goesTo(same, pcDoor), didNothing},
		{"another beat", pulse, words{6: wordOf(49, 2)}, nil, goesTo(pulse, pcBeat), didNothing},
		{"one behind it has beaten", pulse, words{6: wordOf(48, 3)}, nil, goesTo(pulse, pcBeat), didNothing},
		{"the same beat by another one", pulse, words{6: wordOf(50, 2)}, nil, goesTo(pulse, pcBeat), didNothing},
	})
}

// GuestReg, GuestMark, GuestNow.
func TestStepsOfComing(t *testing.T) {
	reg := comer(pcReg, nil)
	found := func(entry uint64, next int) impl.Guest {
		return with(reg, func(g *impl.Guest) { g.Entry, g.Next, g.Pc = entry, next, pcMark })
	}
	mark := comer(pcMark, func(g *impl.Guest) { g.Next = 5 })
	marked := func(was uint64) impl.Guest {
		return with(mark, func(g *impl.Guest) { g.Was, g.Pc = was, pcNow })
	}
	now := comer(pcNow, func(g *impl.Guest) { g.Next, g.Time = 5, 3 })
	timed := func(time int) impl.Guest {
		return with(now, func(g *impl.Guest) { g.Time, g.Pc = time, pcSign })
	}
	seeSteps(t, []stepping{
		{"nobody is in", reg, nil, nil, found(regOf(out, 4, 3), 5), didNothing},
		{"nobody ever was", reg, words{5: 0}, nil, found(0, 1), didNothing},
		{"the last epoch", reg, words{5: regOf(out, 4094, 9)}, nil, found(regOf(out, 4094, 9), 4095), didNothing},
		{"no more epochs", reg, words{5: regOf(out, 4095, 9)}, nil, ended(reg, codeWorn, 0), didNothing},
		{"epochs past all", reg, words{5: regOf(out, 9999, 9)}, nil, ended(reg, codeWorn, 0), didNothing},
		{"somebody is in", reg, words{5: regOf(live, 4, 3)}, nil, ended(reg, codeTaken, 0), didNothing},
		{"somebody was cut off", reg, words{5: regOf(cut, 4, 3)}, nil, ended(reg, codeTaken, 0), didNothing},
		{"a state that is none", reg, words{5: regOf(3, 4, 3)}, nil, ended(reg, codeTaken, 0), didNothing},
		{"in with the last epoch", reg, words{5: regOf(live, 4095, 3)}, nil, ended(reg, codeTaken, 0), didNothing},
		{"the beat", mark, nil, nil, marked(wordOf(9, 4)), didNothing},
		{"a greater beat", mark, words{8: wordOf(9, 77)}, nil, marked(wordOf(9, 77)), didNothing},
		{"the clock", now, nil, nil, timed(50), didNothing},
		{"the clock at 0", now, words{1: 0}, nil, timed(0), didNothing},
		{"the clock at its end", now, words{1: wordOf(1048575, 1)}, nil, timed(1048575), didNothing},
		{"the clock past its end", now, words{1: wordOf(1048576, 1)}, nil, timed(1048575), didNothing},
	})
}

// GuestSign, GuestJoin.
func TestStepsOfJoining(t *testing.T) {
	sign := comer(pcSign, func(g *impl.Guest) { g.Was, g.Next, g.Time = wordOf(9, 4), 5, 50 })
	signed := with(sign, func(g *impl.Guest) { g.Was = wordOf(9, 5) })
	later := with(sign, func(g *impl.Guest) { g.Was = wordOf(9, 6) })
	first := with(sign, func(g *impl.Guest) { g.Was, g.Next = 0, 1 })
	join := comer(pcJoin, func(g *impl.Guest) { g.Entry, g.Next, g.Time, g.Was = regOf(out, 4, 3), 5, 50, 8 })
	last := with(join, func(g *impl.Guest) { g.Entry, g.Next = regOf(out, 4094, mostHalf), 4095 })
	goesTo := func(g impl.Guest, pc int) impl.Guest { return with(g, func(g *impl.Guest) { g.Pc = pc }) }
	in := func(epoch int) impl.Guest {
		return with(ended(join, codeDone, epoch), func(g *impl.Guest) { g.Epoch = epoch })
	}
	seeSteps(t, []stepping{
		{"it signs", sign, nil, words{8: wordOf(50, 5)}, goesTo(sign, pcJoin), didNothing},
		{"it signs first of all", first, words{8: 0}, words{8: wordOf(50, 1)}, goesTo(first, pcJoin), didNothing},
		{"it was signed", signed, words{8: wordOf(9, 5)}, nil, goesTo(signed, pcJoin), didNothing},
		{"it was signed, and is no more", signed, nil, nil, goesTo(signed, pcJoin), didNothing},
		{"one behind it has signed", later, words{8: wordOf(9, 6)}, nil, goesTo(later, pcJoin), didNothing},
		{"another beat", sign, words{8: wordOf(10, 4)}, nil, goesTo(sign, pcMark), didNothing},
		{"the same sign by another one", sign, words{8: wordOf(50, 5)}, nil, goesTo(sign, pcMark), didNothing},
		{"it is in", join, nil, words{5: regOf(live, 5, 3)}, in(5), didJoin},
		{"it is in with the last epoch", last, words{5: regOf(out, 4094, mostHalf)}, words{5: regOf(live, 4095, mostHalf)}, in(4095), didJoin},
		{"another is in", join, words{5: regOf(live, 5, 3)}, nil, goesTo(join, pcReg), didNothing},
		{"another was in", join, words{5: regOf(out, 5, 3)}, nil, goesTo(join, pcReg), didNothing},
		{"another stamp", join, words{5: regOf(out, 4, 4)}, nil, goesTo(join, pcReg), didNothing},
	})
}

// GuestDoor.
func TestStepsAtTheDoor(t *testing.T) {
	from := caller(pcDoor, func(g *impl.Guest) { g.Was, g.Time, g.Seq, g.Who, g.WhoE = 5, 50, 3, 6, 9 })
	to := func(door uint64, seq int, who int, whoE int, pc int) impl.Guest {
		return with(from, func(g *impl.Guest) { g.Door, g.Seq, g.Who, g.WhoE, g.Pc = door, seq, who, whoE, pc })
	}
	var all []stepping
	for _, s := range []struct {
		why              string
		state, slot      int
		epoch, stamp     int
		who, whoE, place int
	}{
		{"free", doorFree, 0, 0, 20, 0, 0, pcHold},
		{"free with no number", doorFree, 0, 0, 0, 0, 0, pcHold},
		{"free for a slot and an epoch", doorFree, 2, 9, 20, 2, 9, pcHold},
		{"free for a slot that is none", doorFree, 7, 9, 20, 7, 9, pcHold},
		{"free with the last number but one", doorFree, 0, 0, 999999, 0, 0, pcHold},
		{"held", doorHeld, 1, 1, 20, 1, 1, pcWatch},
		{"held by itself", doorHeld, 0, 2, 20, 0, 2, pcWatch},
		{"held with the last number", doorHeld, 1, 1, 1000000, 1, 1, pcWatch},
		{"held with the last epoch", doorHeld, 1, 4095, 20, 1, 4095, pcWatch},
		{"held with an epoch past all", doorHeld, 2, 4096, 20, 2, 4095, pcWatch},
		{"done", doorDone, 1, 1, 20, 1, 1, pcAid},
		{"done by the last slot", doorDone, 2, 7, 20, 2, 7, pcAid},
		{"done with the last number", doorDone, 1, 1, 1000000, 1, 1, pcAid},
		{"done with an epoch far past all", doorDone, 1, 100000, 20, 1, 4095, pcAid},
	} {
		door := doorOf(s.state, s.slot, s.epoch, s.stamp)
		all = append(all, stepping{s.why, from, words{2: door}, nil, to(door, s.stamp, s.who, s.whoE, s.place), didNothing})
	}
	for why, door := range map[string]uint64{
		"free with the last number":            doorOf(doorFree, 0, 0, 1000000),
		"free past the last number":            doorOf(doorFree, 0, 0, 1000001),
		"free far past the last number":        doorOf(doorFree, 0, 0, mostHalf),
		"held past the last number":            doorOf(doorHeld, 1, 1, 1000001),
		"done past the last number":            doorOf(doorDone, 1, 1, 1000001),
		"a state that is none":                 doorOf(3, 1, 1, 20),
		"a state that is none, and no slot":    doorOf(3, 7, 0, 20),
		"held for a slot that is none":         doorOf(doorHeld, 3, 1, 20),
		"held for the last slot that is none":  doorOf(doorHeld, 7, 1, 20),
		"done for a slot that is none":         doorOf(doorDone, 3, 1, 20),
		"done for the last slot that is none":  doorOf(doorDone, 7, 1, 20),
		"all bits of a door, with its number":  wordOf(mostHalf, 20),
		"all bits of a word":                   wordOf(mostHalf, mostHalf),
		"free with the last number, of a slot": doorOf(doorFree, 1, 3, 1000000),
	} {
		all = append(all, stepping{why, from, words{2: door}, nil, ended(from, codeWorn, 0), didNothing})
	}
	seeSteps(t, all)
}

// GuestHold, and GuestSee ahead of the last word.
func TestStepsOfHoldingAndSeeing(t *testing.T) {
	hold := caller(pcHold, func(g *impl.Guest) {
		g.Door, g.Seq, g.K, g.Snap = doorOf(doorFree, 0, 0, 20), 20, 9, []uint64{1, 2}
	})
	other := with(hold, func(g *impl.Guest) { g.Door = doorOf(doorFree, 7, 9, 20) })
	held := func(g impl.Guest) impl.Guest {
		return with(g, func(g *impl.Guest) { g.K, g.Snap, g.Pc = 0, nil, pcSee })
	}
	again := func(g impl.Guest) impl.Guest { return with(g, func(g *impl.Guest) { g.Pc = pcDoor }) }
	see := func(k int) impl.Guest {
		return caller(pcSee, func(g *impl.Guest) { g.Seq, g.K, g.Snap = 20, k, scene()[:k] })
	}
	all := []stepping{
		{"it holds", hold, nil, words{2: doorOf(doorHeld, 0, 2, 20)}, held(hold), didNothing},
		{"it holds what was free for another", other, words{2: other.Door}, words{2: doorOf(doorHeld, 0, 2, 20)}, held(other), didNothing},
		{"another holds", hold, words{2: doorOf(doorHeld, 1, 1, 20)}, nil, again(hold), didNothing},
		{"another was ahead", hold, words{2: doorOf(doorFree, 0, 0, 21)}, nil, again(hold), didNothing},
		{"it is held so already", hold, words{2: doorOf(doorHeld, 0, 2, 20)}, nil, again(hold), didNothing},
	}
	for k := range 46 {
		all = append(all, stepping{"one word more", see(k), nil, nil, see(k + 1), didNothing})
	}
	seen := with(see(3), func(g *impl.Guest) { g.Snap[0], g.Snap[1], g.Snap[2] = 7, 8, 9 })
	more := with(seen, func(g *impl.Guest) { g.K, g.Snap = 4, []uint64{7, 8, 9, wordOf(1+4*2, 3)} })
	all = append(all, stepping{"what was seen is no matter", seen, nil, nil, more, didNothing})
	seeSteps(t, all)
}

// GuestDesk, GuestWrite.
func TestStepsOfWriting(t *testing.T) {
	plan := []uint64{changeOf(10, 5, 20), changeOf(17, 1, 20)}
	desk := func(k int) impl.Guest {
		return caller(pcDesk, func(g *impl.Guest) { g.Seq, g.K, g.Plan = 20, k, plan })
	}
	seen := func(k int, was uint64) impl.Guest {
		return with(desk(k), func(g *impl.Guest) { g.Was, g.Pc = was, pcWrite })
	}
	written := func(g impl.Guest, k int, pc int) impl.Guest {
		return with(g, func(g *impl.Guest) { g.K, g.Pc = k, pc })
	}
	none := with(seen(0, 0), func(g *impl.Guest) { g.Plan = nil })
	seeSteps(t, []stepping{
		{"an empty desk", desk(0), nil, nil, seen(0, 0), didNothing},
		{"an older number", desk(0), words{47: wordOf(9, 19)}, nil, seen(0, wordOf(9, 19)), didNothing},
		{"its own number", desk(2), words{49: wordOf(9, 20)}, nil, seen(2, wordOf(9, 20)), didNothing},
		{"a greater number", desk(0), words{47: wordOf(0, 21)}, nil, ended(desk(0), codeFenced, 0), didNothing},
		{"a greater number of a change", desk(2), words{49: wordOf(0, 21)}, nil, ended(desk(2), codeFenced, 0), didNothing},
		{"a greater number on another word", desk(1), words{47: wordOf(0, 21), 49: wordOf(0, 21)}, nil, seen(1, 0), didNothing},
		{"how many there are", seen(0, 0), nil, words{47: wordOf(2, 20)}, written(seen(0, 0), 1, pcDesk), didNothing},
		{"the first change", seen(1, 7), words{48: 7}, words{48: plan[0]}, written(seen(1, 7), 2, pcDesk), didNothing},
		{"the last change", seen(2, 7), words{49: 7}, words{49: plan[1]}, written(seen(2, 7), 0, pcTurn), didNothing},
		{"nothing is planned", none, nil, words{47: wordOf(0, 20)}, written(none, 0, pcTurn), didNothing},
		{"it stands there", seen(0, wordOf(2, 20)), words{47: 9}, nil, written(seen(0, wordOf(2, 20)), 1, pcDesk), didNothing},
		{"the first change stands there", seen(1, plan[0]), nil, nil, written(seen(1, plan[0]), 2, pcDesk), didNothing},
		{"the last change stands there", seen(2, plan[1]), nil, nil, written(seen(2, plan[1]), 0, pcTurn), didNothing},
		{"another first word", seen(0, 0), words{47: wordOf(2, 20)}, nil, written(seen(0, 0), 0, pcDesk), didNothing},
		{"another change", seen(1, 7), words{48: 8}, nil, written(seen(1, 7), 1, pcDesk), didNothing},
		{"another last change", seen(2, 7), words{49: plan[1]}, nil, written(seen(2, 7), 2, pcDesk), didNothing},
	})
}

// GuestTurn, GuestYield.
func TestStepsOfTurningAndYielding(t *testing.T) {
	plan := []uint64{changeOf(10, 5, 20), changeOf(17, 1, 20)}
	held, done := doorOf(doorHeld, 0, 2, 20), doorOf(doorDone, 0, 2, 20)
	from := caller(pcTurn, func(g *impl.Guest) { g.Seq, g.Plan, g.Door, g.Who = 20, plan, doorOf(doorFree, 0, 0, 20), 1 })
	none := with(from, func(g *impl.Guest) { g.Plan = nil })
	last := with(from, func(g *impl.Guest) { g.Epoch, g.Seq = 4095, 1000000 })
	to := func(g impl.Guest, door uint64) impl.Guest {
		return with(g, func(g *impl.Guest) {
			g.Own, g.Door, g.N, g.K, g.Entry, g.Pc = true, door, 2, 1, plan[0], pcLook
		})
	}
	toOpen := with(none, func(g *impl.Guest) { g.Own, g.Door, g.Pc = true, done, pcOpen })
	yield := caller(pcYield, func(g *impl.Guest) { g.Seq, g.K, g.Plan, g.Snap = 20, 47, plan, scene()[:47] })
	leaver := with(yield, func(g *impl.Guest) { g.Op.Kind, g.Code = leaves, codeDone })
	gone := with(ended(leaver, codeDone, 0), func(g *impl.Guest) { g.Epoch = 0 })
	seeSteps(t, []stepping{
		{"it turns", from, words{2: held}, words{2: done}, to(from, done), didTurn},
		{"it turns with nothing planned", none, words{2: held}, words{2: done}, toOpen, didTurn},
		{"it turns the last door", last, words{2: doorOf(doorHeld, 0, 4095, 1000000)}, words{2: doorOf(doorDone, 0, 4095, 1000000)}, to(last, doorOf(doorDone, 0, 4095, 1000000)), didTurn},
		{"the door was broken", from, words{2: doorOf(doorFree, 0, 0, 21)}, nil, ended(from, codeFenced, 0), didNothing},
		{"another holds it", from, words{2: doorOf(doorHeld, 1, 1, 20)}, nil, ended(from, codeFenced, 0), didNothing},
		{"one behind it holds it", from, words{2: doorOf(doorHeld, 0, 3, 20)}, nil, ended(from, codeFenced, 0), didNothing},
		{"held with another number", from, words{2: doorOf(doorHeld, 0, 2, 21)}, nil, ended(from, codeFenced, 0), didNothing},
		{"it was turned", from, words{2: done}, nil, ended(from, codeFenced, 0), didNothing},
		{"nothing planned, and broken", none, words{2: doorOf(doorFree, 0, 0, 21)}, nil, ended(none, codeFenced, 0), didNothing},
		{"it yields", yield, words{2: held}, words{2: doorOf(doorFree, 0, 0, 21)}, ended(yield, 7, 0), didNothing},
		{"it yields, and the door was broken", yield, words{2: doorOf(doorFree, 0, 0, 21)}, nil, ended(yield, 7, 0), didNothing},
		{"it yields, and another holds the door", yield, words{2: doorOf(doorHeld, 1, 1, 22)}, nil, ended(yield, 7, 0), didNothing},
		{"it yields, and the door is done", yield, words{2: done}, nil, ended(yield, 7, 0), didNothing},
		{"who leaves yields with BookDone", leaver, words{2: held}, words{2: doorOf(doorFree, 0, 0, 21)}, gone, didNothing},
	})
}

// GuestWatch, GuestHear.
func TestStepsOfWatching(t *testing.T) {
	watch := caller(pcWatch, func(g *impl.Guest) { g.Seq, g.Who, g.WhoE = 20, 1, 1 })
	watched := func(was uint64, pc int) impl.Guest {
		return with(watch, func(g *impl.Guest) { g.Was, g.Pc = was, pc })
	}
	hear := caller(pcHear, func(g *impl.Guest) { g.Seq, g.Who, g.WhoE, g.Was = 20, 1, 1, 5 })
	heard := func(beat uint64) impl.Guest {
		return with(hear, func(g *impl.Guest) { g.Beat, g.Pc = beat, pcTime })
	}
	seeSteps(t, []stepping{
		{"it is in", watch, nil, nil, watched(regOf(live, 1, 3), pcHear), didNothing},
		{"it was cut off", watch, words{4: regOf(cut, 1, 3)}, nil, watched(regOf(cut, 1, 3), pcBreak), didNothing},
		{"it is out", watch, words{4: regOf(out, 1, 3)}, nil, watched(regOf(out, 1, 3), pcBreak), didNothing},
		{"a state that is none", watch, words{4: regOf(3, 1, 3)}, nil, watched(regOf(3, 1, 3), pcBreak), didNothing},
		{"one behind it is in", watch, words{4: regOf(live, 2, 3)}, nil, watched(regOf(live, 2, 3), pcBreak), didNothing},
		{"one ahead of it is in", watch, words{4: regOf(live, 0, 3)}, nil, watched(regOf(live, 0, 3), pcBreak), didNothing},
		{"its beat", hear, nil, nil, heard(wordOf(47, 1)), didNothing},
		{"another beat of its slot", hear, words{7: wordOf(5, 9)}, nil, heard(wordOf(5, 9)), didNothing},
	})
}

// GuestTime: a lease that ends just now, and one tick earlier.
func TestStepsOfLeases(t *testing.T) {
	from := func(beat uint64) impl.Guest {
		return caller(pcTime, func(g *impl.Guest) { g.Seq, g.Who, g.WhoE, g.Was, g.Beat, g.Time = 20, 1, 3, 5, beat, 9 })
	}
	var all []stepping
	for _, s := range []struct {
		why         string
		time, stamp int
		clock, pc   int
	}{
		{"it has beaten just now", 50, 3, 50, pcDoor},
		{"a tick ahead of its end", 46, 3, 49, pcDoor},
		{"the last tick of its lease", 46, 3, 50, pcDoor},
		{"its lease is over", 46, 3, 51, pcFence},
		{"its lease is long over", 46, 3, 5000, pcFence},
		{"it has beaten later than it is", 60, 3, 50, pcDoor},
		{"the clock past its end", 1048575, 3, 1048579, pcDoor},
		{"the clock further past its end", 1048575, 3, 1048580, pcFence},
		{"the clock far past its end", 0, 3, mostHalf, pcFence},
		{"a beat far past its end", mostHalf, 3, 0, pcDoor},
		{"it has not beaten", 50, 2, 50, pcFence},
		{"it never has beaten", 50, 0, 50, pcFence},
		{"one behind it has beaten", 46, 4, 50, pcDoor},
		{"one behind it has beaten long ago", 0, 4, 5000, pcDoor},
	} {
		g := from(wordOf(s.time, s.stamp))
		to := with(g, func(g *impl.Guest) { g.Pc = s.pc })
		all = append(all, stepping{s.why, g, words{1: wordOf(s.clock, 7)}, nil, to, didNothing})
	}
	seeSteps(t, all)
}

// GuestFence, GuestBreak.
func TestStepsOfFencing(t *testing.T) {
	fence := caller(pcFence, func(g *impl.Guest) { g.Seq, g.Who, g.WhoE, g.Was = 20, 1, 1, regOf(live, 1, 3) })
	other := with(fence, func(g *impl.Guest) { g.WhoE, g.Was = 4095, regOf(live, 4095, 19) })
	broken := caller(pcBreak, func(g *impl.Guest) { g.Seq, g.Who, g.WhoE, g.Was = 20, 1, 1, 5 })
	last := with(broken, func(g *impl.Guest) { g.Seq, g.WhoE = 1000000, 4095 })
	again := func(g impl.Guest) impl.Guest { return with(g, func(g *impl.Guest) { g.Pc = pcDoor }) }
	seeSteps(t, []stepping{
		{"it is cut off", fence, nil, words{4: regOf(cut, 1, 3)}, again(fence), didCut},
		{"the last epoch is cut off", other, words{4: regOf(live, 4095, 19)}, words{4: regOf(cut, 4095, 19)}, again(other), didCut},
		{"it was cut off", fence, words{4: regOf(cut, 1, 3)}, nil, again(fence), didNothing},
		{"it has left", fence, words{4: regOf(out, 1, 3)}, nil, again(fence), didNothing},
		{"one behind it is in", fence, words{4: regOf(live, 2, 3)}, nil, again(fence), didNothing},
		{"another stamp", fence, words{4: regOf(live, 1, 4)}, nil, again(fence), didNothing},
		{"it breaks", broken, words{2: doorOf(doorHeld, 1, 1, 20)}, words{2: doorOf(doorFree, 0, 0, 21)}, again(broken), didBreak},
		{"it breaks the last door", last, words{2: doorOf(doorHeld, 1, 4095, 1000000)}, words{2: doorOf(doorFree, 0, 0, 1000001)}, again(last), didBreak},
		{"it was broken", broken, words{2: doorOf(doorFree, 0, 0, 21)}, nil, again(broken), didNothing},
		{"it was turned", broken, words{2: doorOf(doorDone, 1, 1, 20)}, nil, again(broken), didNothing},
		{"held by another one", broken, words{2: doorOf(doorHeld, 2, 1, 20)}, nil, again(broken), didNothing},
		{"held with another epoch", broken, words{2: doorOf(doorHeld, 1, 2, 20)}, nil, again(broken), didNothing},
		{"held with another number", broken, words{2: doorOf(doorHeld, 1, 1, 21)}, nil, again(broken), didNothing},
	})
}

// GuestAid, GuestEntry.
func TestStepsOfAiding(t *testing.T) {
	aid := caller(pcAid, func(g *impl.Guest) { g.Seq, g.Who, g.WhoE, g.K, g.N = 20, 1, 1, 9, 8 })
	to := func(n int, k int, pc int) impl.Guest {
		return with(aid, func(g *impl.Guest) { g.N, g.K, g.Pc = n, k, pc })
	}
	again := with(aid, func(g *impl.Guest) { g.Pc = pcDoor })
	entry := caller(pcEntry, func(g *impl.Guest) { g.Seq, g.Who, g.WhoE, g.K, g.N, g.Entry = 20, 1, 1, 2, 3, 9 })
	read := func(word uint64, pc int) impl.Guest {
		return with(entry, func(g *impl.Guest) { g.Entry, g.Pc = word, pc })
	}
	seeSteps(t, []stepping{
		{"changes", aid, words{68: wordOf(3, 20)}, nil, to(3, 1, pcEntry), didNothing},
		{"one change", aid, words{68: wordOf(1, 20)}, nil, to(1, 1, pcEntry), didNothing},
		{"the most changes", aid, words{68: wordOf(20, 20)}, nil, to(20, 1, pcEntry), didNothing},
		{"no changes", aid, words{68: wordOf(0, 20)}, nil, to(0, 0, pcOpen), didNothing},
		{"too many changes", aid, words{68: wordOf(21, 20)}, nil, again, didNothing},
		{"far too many changes", aid, words{68: wordOf(mostHalf, 20)}, nil, again, didNothing},
		{"a desk of an older number", aid, words{68: wordOf(3, 19)}, nil, again, didNothing},
		{"a desk of a greater number", aid, words{68: wordOf(3, 21)}, nil, again, didNothing},
		{"an empty desk", aid, nil, nil, again, didNothing},
		{"a change", entry, words{70: changeOf(17, 2, 20)}, nil, read(changeOf(17, 2, 20), pcLook), didNothing},
		{"a change of an older number", entry, words{70: changeOf(17, 2, 19)}, nil, read(changeOf(17, 2, 19), pcDoor), didNothing},
		{"a change of a greater number", entry, words{70: changeOf(17, 2, 21)}, nil, read(changeOf(17, 2, 21), pcDoor), didNothing},
		{"no change", entry, nil, nil, read(0, pcDoor), didNothing},
	})
}

// GuestLook, for another and for itself.
func TestStepsOfLooking(t *testing.T) {
	plan := []uint64{changeOf(10, 5, 20), changeOf(17, 1, 20)}
	for _, own := range []bool{false, true} {
		look := func(k int, entry uint64) impl.Guest {
			return caller(pcLook, func(g *impl.Guest) {
				g.Seq, g.Who, g.K, g.N, g.Plan, g.Entry, g.Own = 20, 1, k, 2, plan, entry, own
			})
		}
		saw := func(g impl.Guest, was uint64) impl.Guest {
			return with(g, func(g *impl.Guest) { g.Was, g.Pc = was, pcCarry })
		}
		next := func(was uint64) impl.Guest {
			return with(look(2, plan[0]), func(g *impl.Guest) {
				g.Was, g.Pc = was, pcEntry
				if own {
					g.Pc, g.Entry = pcLook, plan[1]
				}
			})
		}
		last := func(was uint64) impl.Guest {
			return with(look(0, plan[1]), func(g *impl.Guest) { g.Was, g.Pc = was, pcOpen })
		}
		seeSteps(t, []stepping{
			{"it is to be carried out", look(1, plan[0]), nil, nil, saw(look(1, plan[0]), wordOf(3, 3)), didNothing},
			{"an older number by one", look(1, plan[0]), words{10: wordOf(3, 19)}, nil, saw(look(1, plan[0]), wordOf(3, 19)), didNothing},
			{"the last one is to be carried out", look(2, plan[1]), nil, nil, saw(look(2, plan[1]), wordOf(0, 3)), didNothing},
			{"it was carried out", look(1, plan[0]), words{10: wordOf(5, 20)}, nil, next(wordOf(5, 20)), didNothing},
			{"a greater number is there", look(1, plan[0]), words{10: wordOf(9, 21)}, nil, next(wordOf(9, 21)), didNothing},
			{"the last one was carried out", look(2, plan[1]), words{17: wordOf(1, 20)}, nil, last(wordOf(1, 20)), didNothing},
			{"no such word", look(1, changeOf(131, 1, 20)), nil, nil, saw(look(1, changeOf(131, 1, 20)), 0), didNothing},
			{"a word of a desk", look(1, changeOf(100, 1, 20)), words{100: 8}, nil, saw(look(1, changeOf(100, 1, 20)), 8), didNothing},
		})
	}
}

// GuestCarry, for another and for itself.
func TestStepsOfCarrying(t *testing.T) {
	plan := []uint64{changeOf(10, 5, 20), changeOf(17, 1, 20)}
	for _, own := range []bool{false, true} {
		carry := func(k int, entry uint64, was uint64) impl.Guest {
			return caller(pcCarry, func(g *impl.Guest) {
				g.Seq, g.Who, g.K, g.N, g.Plan, g.Entry, g.Own, g.Was = 20, 1, k, 2, plan, entry, own, was
			})
		}
		first, second := carry(1, plan[0], wordOf(3, 3)), carry(2, plan[1], wordOf(0, 3))
		nowhere := carry(1, changeOf(131, 1, 20), 0)
		again := func(g impl.Guest) impl.Guest { return with(g, func(g *impl.Guest) { g.Pc = pcLook }) }
		next := with(first, func(g *impl.Guest) {
			g.K, g.Pc = 2, pcEntry
			if own {
				g.Pc, g.Entry = pcLook, plan[1]
			}
		})
		last := with(second, func(g *impl.Guest) { g.K, g.Pc = 0, pcOpen })
		seeSteps(t, []stepping{
			{"it is carried out", first, nil, words{10: wordOf(5, 20)}, next, didNothing},
			{"the last one is carried out", second, nil, words{17: wordOf(1, 20)}, last, didNothing},
			{"another has carried it out", first, words{10: wordOf(5, 20)}, nil, again(first), didNothing},
			{"another has carried the last one out", second, words{17: wordOf(1, 20)}, nil, again(second), didNothing},
			{"it has turned since", first, words{10: wordOf(3, 4)}, nil, again(first), didNothing},
			{"no such word", nowhere, nil, nil, again(nowhere), didNothing},
		})
	}
}

// GuestOpen, for another and for itself.
func TestStepsOfOpening(t *testing.T) {
	done := doorOf(doorDone, 1, 1, 20)
	helper := caller(pcOpen, func(g *impl.Guest) { g.Seq, g.Who, g.WhoE, g.Door, g.N, g.Snap = 20, 1, 1, done, 2, []uint64{4} })
	owner := with(helper, func(g *impl.Guest) { g.Own, g.Plan, g.Code, g.Val = true, []uint64{1, 2}, codeDone, 6 })
	refused := with(owner, func(g *impl.Guest) { g.Code, g.Val = codeFull, 0 })
	leaver := with(owner, func(g *impl.Guest) { g.Op.Kind, g.Val = leaves, 0 })
	keeper := with(leaver, func(g *impl.Guest) { g.Code = codeKeeps })
	again := with(helper, func(g *impl.Guest) { g.Pc = pcDoor })
	gone := with(ended(leaver, codeDone, 0), func(g *impl.Guest) { g.Epoch = 0 })
	free := words{2: doorOf(doorFree, 0, 0, 21)}
	seeSteps(t, []stepping{
		{"it opens for another", helper, words{2: done}, free, again, didNothing},
		{"another has opened", helper, free, nil, again, didNothing},
		{"another holds", helper, words{2: doorOf(doorHeld, 1, 1, 21)}, nil, again, didNothing},
		{"it opens for itself", owner, words{2: done}, free, ended(owner, codeDone, 6), didNothing},
		{"a helper has opened", owner, free, nil, ended(owner, codeDone, 6), didNothing},
		{"the door has gone on", owner, words{2: doorOf(doorDone, 1, 1, 21)}, nil, ended(owner, codeDone, 6), didNothing},
		{"with another code", refused, words{2: done}, free, ended(refused, codeFull, 0), didNothing},
		{"it has left", leaver, words{2: done}, free, gone, didNothing},
		{"it has left, and a helper has opened", leaver, free, nil, gone, didNothing},
		{"it has not left", keeper, words{2: done}, free, ended(keeper, codeKeeps, 0), didNothing},
	})
}
