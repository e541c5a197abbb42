package tests

import (
	"fmt"
	"slices"
	"testing"

	"loop.example/hostel/impl"
)

// seeNoStep asks that all is as it is.
func seeNoStep(t *testing.T, why string, w []uint64, g impl.Guest) {
	t.Helper()
	got, to, did := guestStep(t, w, g)
	if !slices.Equal(got, w) || !sameGuest(to, g) || did != didNothing {
		t.Fatalf("%s: at %d: %+v, not %+v, %d", why, g.Pc, to, g, did)
	}
}

// P15: a guest that is not up, or not busy, wherever it stands.
func TestWhoIsNotUpOrNotBusy(t *testing.T) {
	d := dice(15)
	for range 300 {
		c, w := d.anyHouse()
		for pc := pcBeat; pc <= pcYield; pc++ {
			g := d.anyGuest(c, w, pc)
			seeNoStep(t, "not up", w, with(g, func(g *impl.Guest) { g.Up = false }))
			seeNoStep(t, "not busy, and not ok", w, with(g, func(g *impl.Guest) { g.Busy = false }))
			seeNoStep(t, "not busy", w, with(g, func(g *impl.Guest) { g.Busy, g.Pc = false, pcIdle }))
			seeNoStep(t, "not up, not busy", w, with(g, func(g *impl.Guest) { g.Up, g.Busy, g.Pc = false, false, pcIdle }))
		}
	}
	for slot := range 3 {
		seeNoStep(t, "new", scene(), impl.GuestNew(slot))
	}
	seeNoStep(t, "nobody", scene(), impl.Guest{})
}

// Guests that are not ok, of each kind, at each place.
func TestStepsOfGuestsThatAreNotOk(t *testing.T) {
	d := dice(16)
	for range 20 {
		c, w := d.anyHouse()
		for pc := pcBeat; pc <= pcYield; pc++ {
			for _, number := range numbersOfGuests(c) {
				for _, n := range []int{-1, number.most + 1, 1 << 40} {
					g := d.anyGuest(c, w, pc)
					*number.of(&g) = n
					seeNoStep(t, number.name, w, g)
				}
			}
			for why, how := range map[string]change{
				"no place":       func(g *impl.Guest) { g.Pc = 27 },
				"busy and idle":  func(g *impl.Guest) { g.Pc = 0 },
				"another's call": func(g *impl.Guest) { g.Op.Slot++ },
				"no slot":        func(g *impl.Guest) { g.Slot, g.Op.Slot = c.Slots, c.Slots },
				"slot -1":        func(g *impl.Guest) { g.Slot, g.Op.Slot = -1, -1 },
				"much seen":      func(g *impl.Guest) { g.Snap = make([]uint64, deskAt(c, 0)+1) },
				"much planned":   func(g *impl.Guest) { g.Plan = make([]uint64, 21) },
			} {
				seeNoStep(t, why, w, with(d.anyGuest(c, w, pc), how))
			}
		}
	}
	for pc := pcWatch; pc <= pcCarry; pc++ {
		seeNoStep(t, "who is no slot", scene(), with(guestAt(pc), func(g *impl.Guest) { g.Who = 3 }))
	}
	for pc := pcEntry; pc <= pcCarry; pc++ {
		seeNoStep(t, "no change", scene(), with(guestAt(pc), func(g *impl.Guest) { g.K = 0 }))
		seeNoStep(t, "past all changes", scene(), with(guestAt(pc), func(g *impl.Guest) { g.K = 4 }))
		seeNoStep(t, "not so many of its own", scene(), with(guestAt(pc), func(g *impl.Guest) { g.Own, g.N = true, 4 }))
	}
	seeNoStep(t, "another word seen", scene(), with(guestAt(pcSee), func(g *impl.Guest) { g.K = 3 }))
	seeNoStep(t, "all is seen", scene(), with(guestAt(pcSee), func(g *impl.Guest) { g.K, g.Snap = 47, make([]uint64, 47) }))
	seeNoStep(t, "not all is seen", scene(), with(guestAt(pcCut), func(g *impl.Guest) { g.Snap = make([]uint64, 46) }))
	seeNoStep(t, "nobody to cut off", scene(), with(guestAt(pcCut), func(g *impl.Guest) { g.Op.A = 3 }))
	seeNoStep(t, "past the desk", scene(), with(guestAt(pcDesk), func(g *impl.Guest) { g.K = 4 }))
	seeNoStep(t, "past the plan", scene(), with(guestAt(pcWrite), func(g *impl.Guest) { g.K = 4 }))
}

// Words that are not those of a house: of wrong lengths, and with wrong first
// words; and a house that is too small for the guest.
func TestStepsInWordsOfNoHouse(t *testing.T) {
	c := deskHouse
	for pc := pcBeat; pc <= pcYield; pc++ {
		g := guestAt(pc)
		for _, n := range []int{0, 1, 3, deskAt(c, 0), sizeOf(c) - 1, sizeOf(c) + 1, sizeOf(c) + 40} {
			w := append(scene(), make([]uint64, 40)...)[:n]
			seeNoStep(t, "so many words", w, g)
		}
		seeNoStep(t, "no words", nil, g)
		for _, first := range wrongFirstWords(c) {
			seeNoStep(t, "another first word", words{0: first}.in(scene()), g)
		}
		small := impl.PlatCfg{Slots: 1, Pages: 2, Lease: 4}
		seeNoStep(t, "a house without its slot", standing(small, modelOpen(1, 2), stampThree), g)
	}
}

// anyHouse is a house and its words: a book that was walked to, with a clock, a
// door, beats and desks that are thrown, so that they often fit together.
func (d *dice) anyHouse() (impl.PlatCfg, []uint64) {
	slots, pages := 1+d.below(mostSlots), 1+d.below(mostPages)
	books := walked(slots, pages, 10+d.below(60))
	b := books[d.below(len(books))]
	for slot := range slots {
		if b.In[slot] == live && d.below(4) == 0 {
			b = modelCut(b, slot)
		}
		if b.In[slot] == out && d.below(8) == 0 {
			b.Epoch[slot] = mostEpoch
		}
	}
	c := houseOf(b, 1+d.below(mostLease))
	number := 2 + d.below(30)
	if d.below(8) == 0 {
		number = mostDoor - 1 + d.below(3)
	}
	w := standing(c, b, func(int) int { return d.below(number) })
	clock := 20 + d.below(40)
	w[clockAt] = wordOf(clock, d.below(2))
	who := d.below(slots)
	if d.below(8) == 0 {
		who = d.below(mostSlot + 1)
	}
	epoch := d.below(6)
	if who < slots && d.below(4) > 0 {
		epoch = b.Epoch[who]
	}
	w[doorAt] = doorOf(d.below(3), who, epoch, number)
	if d.below(20) == 0 {
		w[doorAt] = doorOf(d.below(4), d.below(mostSlot+1), d.below(5000), d.below(mostHalf))
	}
	for slot := range slots {
		w[beatAt(c, slot)] = wordOf(clock-d.below(mostLease+5), max(0, b.Epoch[slot]-1+d.below(3)))
		d.anyDesk(w, c, slot, number-1+d.below(3))
	}
	if d.below(6) == 0 {
		at := regAt(c, 0) + d.below(deskAt(c, 0)-regAt(c, 0))
		w[at] = wordOf(d.below(60), d.below(number+1))
	}
	return c, w
}

// anyDesk writes changes that are thrown onto a desk.
func (d *dice) anyDesk(w []uint64, c impl.PlatCfg, slot int, number int) {
	many := d.below(5)
	if d.below(6) == 0 {
		many = 19 + d.below(4)
	}
	w[deskAt(c, slot)] = wordOf(many, number)
	for i := 1; i <= mostChanges; i++ {
		w[deskAt(c, slot)+i] = d.anyChange(c, number-d.below(8)/7)
	}
}

func (d *dice) anyChange(c impl.PlatCfg, number int) uint64 {
	at := headAt(c, 0) + d.below(deskAt(c, 0)-headAt(c, 0))
	if d.below(30) == 0 {
		at = d.below(mostAddr + 1)
	}
	return changeOf(at, d.below(12), number)
}

// anyGuest is a guest that is ok at a place, in words of a house; what it has is
// often what the words say.
func (d *dice) anyGuest(c impl.PlatCfg, w []uint64, pc int) impl.Guest {
	for {
		g := d.anyNumbers(c, w, pc)
		d.anyLists(c, w, &g)
		if modelGuestOk(c, g) {
			return g
		}
	}
}

func (d *dice) anyNumbers(c impl.PlatCfg, w []uint64, pc int) impl.Guest {
	door := w[doorAt]
	seldom := func(usual int, most int) int {
		if d.below(4) > 0 {
			return usual
		}
		return max(0, min(most, usual-1+d.below(3)))
	}
	slot := d.below(c.Slots)
	g := impl.Guest{Up: true, Slot: slot, Busy: true, Pc: pc, Own: d.below(3) == 0, Code: d.below(14), Val: d.below(9), Count: d.below(50)}
	g.Epoch = seldom(min(valOf(w[regAt(c, slot)])/4, mostEpoch), mostEpoch)
	g.Seq = seldom(min(stampOf(door), mostDoor+1), mostDoor+1)
	g.Who = seldom(valOf(door)/4%8, mostSlot)
	if d.below(2) == 0 {
		g.Who = d.below(c.Slots)
	}
	g.WhoE = seldom(min(valOf(door)/32, mostEpoch), mostEpoch)
	if g.Who < c.Slots && d.below(2) == 0 {
		g.WhoE = min(valOf(w[regAt(c, g.Who)])/4, mostEpoch)
	}
	g.Next = min(g.Epoch+d.below(2), mostEpoch)
	g.Time = seldom(min(valOf(w[clockAt]), mostVal), mostVal)
	g.Op = impl.BookOp{Kind: d.below(8), Slot: slot, A: d.below(6) - 1, B: d.below(6) - 1}
	if g.Op.Kind == takes {
		g.Op.A = d.below(20)
	}
	if g.Op.Kind == gives || g.Op.Kind == hands {
		g.Op.A = d.below(8 * c.Pages)
	}
	g.Door = door
	if d.below(6) == 0 {
		g.Door = doorOf(d.below(3), d.below(8), d.below(9), g.Seq)
	}
	g.N, g.K = d.below(4), d.below(5)
	return g
}

// anyLists gives a guest its lists, and words as it may have seen them.
func (d *dice) anyLists(c impl.PlatCfg, w []uint64, g *impl.Guest) {
	for range d.below(4) {
		g.Plan = append(g.Plan, d.anyChange(c, g.Seq))
	}
	if d.below(10) == 0 {
		g.Plan = slices.Clone(w[deskAt(c, 0)+1 : deskAt(c, 0)+1+mostChanges])
	}
	if between(g.Pc, pcEntry, pcCarry) && g.Own {
		g.N = len(g.Plan)
	}
	if g.Pc == pcSee {
		g.K = deskAt(c, 0) - 1
		if d.below(4) == 0 {
			g.K = d.below(deskAt(c, 0))
		}
		g.Snap = slices.Clone(w[:g.K])
	}
	if g.Pc == pcCut {
		g.Snap = slices.Clone(withoutDesks(c, w))
	}
	if len(g.Snap) > 0 && d.below(6) == 0 {
		g.Snap[d.below(len(g.Snap))] = wordOf(d.below(9), d.below(9))
	}
	g.Entry = d.anyChange(c, g.Seq)
	if g.Pc == pcJoin {
		g.Entry = w[regAt(c, g.Slot)]
	}
	at := valOf(g.Entry) / (mostVal + 1)
	switch {
	case g.Pc == pcWrite && len(g.Plan) > 0 && d.below(4) == 0:
		g.Was = g.Plan[min(max(g.K-1, 0), len(g.Plan)-1)]
	case g.Pc == pcWrite:
		g.Was = w[deskAt(c, g.Slot)+min(g.K, mostChanges)]
	case g.Pc == pcFence:
		g.Was = w[min(regAt(c, g.Who), len(w)-1)]
	case g.Pc == pcCarry && at < len(w):
		g.Was = w[at]
	default:
		g.Was = w[beatAt(c, g.Slot)]
	}
	if d.below(5) == 0 {
		g.Was++
	}
	g.Beat = w[min(beatAt(c, g.Who), len(w)-1)]
	if d.below(6) == 0 {
		g.Entry = w[d.below(len(w))]
	}
}

// turnedAt are the addresses at which words are not the same.
func turnedAt(a []uint64, b []uint64) []int {
	var out []int
	for at := range a {
		if a[at] != b[at] {
			out = append(out, at)
		}
	}
	return out
}

// seeKept asks for P14: the guest behind a step is ok, and one word at most has
// turned; it is where, or -1.
func seeKept(t *testing.T, c impl.PlatCfg, w []uint64, now []uint64, g impl.Guest, to impl.Guest) int {
	t.Helper()
	if !modelGuestOk(c, to) || !impl.GuestOk(c, to) {
		t.Fatalf("at %d: a guest that is not ok: %+v, behind %+v", g.Pc, to, g)
	}
	turned := turnedAt(w, now)
	if len(now) != len(w) || len(turned) > 1 {
		t.Fatalf("at %d: words turned at %v", g.Pc, turned)
	}
	if len(turned) == 0 {
		return -1
	}
	return turned[0]
}

// seeItsOwn asks for P16 of a step that has turned a word: its own beat, desk,
// word in the register, or the door, at places that are there for it; another's
// word in the register only as somebody who is cut off; anything else only as
// the change that it has in hand.
func seeItsOwn(t *testing.T, c impl.PlatCfg, g impl.Guest, at int, was uint64, now uint64, did int) {
	t.Helper()
	ok := false
	switch g.Pc {
	case pcPulse, pcSign:
		ok = at == beatAt(c, g.Slot) && stampOf(now) == map[int]int{pcPulse: g.Epoch, pcSign: g.Next}[g.Pc]
	case pcJoin:
		ok = at == regAt(c, g.Slot) && did == didJoin
	case pcHold, pcTurn, pcBreak, pcOpen, pcYield:
		ok = at == doorAt
	case pcWrite:
		ok = between(at, deskAt(c, g.Slot), deskAt(c, g.Slot)+mostChanges)
	case pcCut, pcFence:
		whom := map[int]int{pcCut: g.Op.A, pcFence: g.Who}[g.Pc]
		ok = at == regAt(c, whom) && valOf(now)%4 == cut && stampOf(now) == stampOf(was) && did == didCut
	case pcCarry:
		ok = g.Entry%(mostHalf+1) == uint64(at)*(mostVal+1)+uint64(valOf(now)) && stampOf(now) == g.Seq
	}
	if !ok {
		t.Fatalf("at %d: word %d was %x, is %x: %+v", g.Pc, at, was, now, g)
	}
}

// wayOut names how a step has ended.
func wayOut(g impl.Guest, to impl.Guest, turned bool, did int) string {
	name := fmt.Sprintf("%d to %d", g.Pc, to.Pc)
	if to.Pc == pcIdle || to.Pc == pcYield && g.Pc != pcYield {
		name += fmt.Sprintf(" with %d", to.Code)
	}
	if g.Pc == pcOpen || g.Pc == pcYield {
		name = fmt.Sprintf("%d to %d", g.Pc, to.Pc)
	}
	if turned {
		name += ", turned"
	}
	if did != didNothing {
		name += fmt.Sprintf(", did %d", did)
	}
	return name
}

// waysOut are all that the chapter's table has.
func waysOut() []string {
	return []string{
		"1 to 2", "1 to 0 with 11", "2 to 3", "3 to 9", "3 to 9, turned", "3 to 1",
		"4 to 0 with 6", "4 to 0 with 12", "4 to 5", "5 to 6", "6 to 7", "7 to 8", "7 to 8, turned", "7 to 5",
		"8 to 0 with 0, turned, did 4", "8 to 4", "9 to 0 with 12", "9 to 10", "9 to 16", "9 to 21",
		"10 to 11, turned", "10 to 9", "11 to 11", "11 to 26 with 11", "11 to 26 with 8", "11 to 12",
		"11 to 13", "11 to 26 with 5", "11 to 26 with 9", "12 to 13, turned, did 2", "12 to 26 with 11, turned, did 2",
		"12 to 26 with 9, turned, did 2", "12 to 11", "13 to 14", "13 to 0 with 11", "14 to 13", "14 to 13, turned",
		"14 to 15", "14 to 15, turned", "15 to 23, turned, did 1", "15 to 25, turned, did 1", "15 to 0 with 11",
		"16 to 17", "16 to 20", "17 to 18", "18 to 19", "18 to 9", "19 to 9, turned, did 2", "19 to 9",
		"20 to 9, turned, did 3", "20 to 9", "21 to 9", "21 to 22", "21 to 25", "22 to 23", "22 to 9",
		"23 to 24", "23 to 22", "23 to 23", "23 to 25", "24 to 22, turned", "24 to 23, turned", "24 to 25, turned",
		"24 to 23", "25 to 0, turned", "25 to 0", "25 to 9, turned", "25 to 9", "26 to 0, turned", "26 to 0",
	}
}

// P14 and P16, of guests that are thrown, at each place, by all ways out; and
// each step held against the model. Where the chapter's table alone would leave
// a guest that is not ok, the promise counts.
func TestGuestsThrown(t *testing.T) {
	t.Parallel()
	d := dice(14)
	met := map[string]int{}
	unkept := 0
	for range 4000 {
		c, w := d.anyHouse()
		for pc := pcBeat; pc <= pcYield; pc++ {
			g := d.anyGuest(c, w, pc)
			if _, want, _ := modelStep(w, g); modelGuestOk(c, want) {
				seeStep(t, w, g)
			} else {
				unkept++
				seeUnkept(t, c, w, g)
			}
			now, to, did := impl.GuestStep(w, g)
			at := seeKept(t, c, w, now, g, to)
			if at >= 0 {
				seeItsOwn(t, c, g, at, w[at], now[at], did)
			}
			met[wayOut(g, to, at >= 0, did)]++
		}
	}
	for _, name := range waysOut() {
		if met[name] == 0 {
			t.Errorf("never met: %s", name)
		}
	}
	if unkept == 0 {
		t.Error("no guest was met whom the table alone does not keep ok")
	}
}

// modelKept is a step of the model that leaves a guest ok: there are two guests
// that are ok, but whom the table alone would not leave so. One turns the door,
// having found it free for a slot that is none of the house; and one aids
// another, but has changes of its own, and not so many. No guest comes to be so
// where guests alone turn words.
func modelKept(w []uint64, g impl.Guest) ([]uint64, impl.Guest, int) {
	now, to, did := modelStep(w, g)
	c, _ := modelHouse(w)
	if modelGuestOk(c, to) {
		return now, to, did
	}
	switch {
	case g.Pc == pcTurn && g.Who >= c.Slots:
		to.Who = g.Slot
	case g.Pc == pcAid && g.Own && to.N != len(g.Plan):
		to.Own, to.Pc, to.Entry = false, pcEntry, g.Entry
	}
	return now, to, did
}

// seeUnkept holds a step of such a guest against the model.
func seeUnkept(t *testing.T, c impl.PlatCfg, w []uint64, g impl.Guest) {
	t.Helper()
	wantWords, want, wantDid := modelKept(w, g)
	if !modelGuestOk(c, want) {
		t.Fatalf("at %d: the model leaves a guest that is not ok: %+v, behind %+v", g.Pc, want, g)
	}
	got, to, did := guestStep(t, w, g)
	if !slices.Equal(got, wantWords) || !sameGuest(to, want) || did != wantDid {
		t.Fatalf("at %d: %+v, not %+v", g.Pc, to, want)
	}
}

// A door that is free for a slot that is none of the house: who finds it so comes
// to its answer.
func TestAFreeDoorOfNoSlot(t *testing.T) {
	for slot := range mostSlot + 1 {
		w := words{2: doorOf(doorFree, slot, 9, 20)}.in(scene())
		g := impl.GuestAsk(impl.Guest{Up: true, Epoch: 2}, impl.BookOp{Kind: takes, A: 2})
		for n := 0; g.Busy; n++ {
			now, to, _ := guestStep(t, w, g)
			seeKept(t, deskHouse, w, now, g, to)
			w, g = now, to
			if n > 100 {
				t.Fatalf("no end: %+v", g)
			}
		}
		if g.Code != codeDone || g.Val != 2 || w[17] != wordOf(1, 20) || w[2] != doorOf(doorFree, 0, 0, 21) {
			t.Errorf("slot %d: %+v", slot, g)
		}
	}
}
