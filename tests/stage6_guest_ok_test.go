package tests

import (
	"math"
	"strconv"
	"testing"

	"loop.example/hostel/impl"
)

// The constants of the chapter.
func TestLimitsOfGuests(t *testing.T) {
	places := []int{
		impl.GuestIdle, impl.GuestBeat, impl.GuestClock, impl.GuestPulse, impl.GuestReg, impl.GuestMark,
		impl.GuestNow, impl.GuestSign, impl.GuestJoin, impl.GuestDoor, impl.GuestHold, impl.GuestSee,
		impl.GuestCut, impl.GuestDesk, impl.GuestWrite, impl.GuestTurn, impl.GuestWatch, impl.GuestHear,
		impl.GuestTime, impl.GuestFence, impl.GuestBreak, impl.GuestAid, impl.GuestEntry, impl.GuestLook,
		impl.GuestCarry, impl.GuestOpen, impl.GuestYield,
	}
	for n, place := range places {
		if place != n {
			t.Errorf("place %d is %d", n, place)
		}
	}
	for n, did := range []int{impl.GuestNothing, impl.GuestTurned, impl.GuestCutOff, impl.GuestBroke, impl.GuestJoined} {
		if did != n {
			t.Errorf("what was done: %d is %d", n, did)
		}
	}
	if impl.GuestMaxDoor != mostDoor || impl.BookFenced != codeFenced {
		t.Error(impl.GuestMaxDoor, impl.BookFenced)
	}
}

// GuestNew, at each slot that any house may have, and at those of none.
func TestNewGuests(t *testing.T) {
	for slot := range mostSlots {
		if got := impl.GuestNew(slot); !sameGuest(got, impl.Guest{Up: true, Slot: slot}) {
			t.Errorf("slot %d: %+v", slot, got)
		}
	}
	for _, slot := range numbersThatAreNone(mostSlots) {
		if got := impl.GuestNew(slot); !sameGuest(got, impl.Guest{}) {
			t.Errorf("slot %d: %+v", slot, got)
		}
	}
}

// New guests are ok in each house that has their slot, and in no other one.
func TestNewGuestsOfHouses(t *testing.T) {
	for _, c := range everyHouse() {
		for slot := range mostSlots {
			if got := impl.GuestOk(c, impl.GuestNew(slot)); got != (slot < c.Slots) {
				t.Errorf("%v, slot %d: %v", c, slot, got)
			}
		}
	}
	for _, c := range wrongHouses() {
		if impl.GuestOk(c, impl.GuestNew(0)) || impl.GuestOk(c, impl.Guest{}) {
			t.Errorf("%v is no house", c)
		}
	}
}

// seeGuestOk asks whether a guest is ok, and whether it is left as it was.
func seeGuestOk(t *testing.T, why string, c impl.PlatCfg, g impl.Guest, want bool) {
	t.Helper()
	lent, asItWas := lendGuest(g)
	if got := impl.GuestOk(c, lent); got != want || got != modelGuestOk(c, g) {
		t.Errorf("%s, at %d: %v, and by the model %v: %+v", why, g.Pc, got, modelGuestOk(c, g), g)
	}
	if !asItWas() {
		t.Errorf("%s: the guest is not as it was", why)
	}
}

// guestAt is a guest that is ok at a place, in the house of the desks, in the
// midst of all that the place asks for.
func guestAt(pc int) impl.Guest {
	c := deskHouse
	g := impl.Guest{Up: true, Slot: 1, Epoch: 5, Busy: pc != pcIdle, Pc: pc, K: 2, N: 3, Seq: 20, Next: 6, Who: 2, WhoE: 4, Time: 50}
	g.Op = impl.BookOp{Kind: reaps, Slot: 1, A: 2}
	g.Was, g.Door, g.Beat, g.Entry = 1, 2, 3, changeOf(tagAt(c, 3), 2, 20)
	g.Plan = []uint64{changeOf(headAt(c, 1), 5, 20), changeOf(tagAt(c, 2), 2, 20), changeOf(linkAt(c, 2), 0, 20)}
	switch pc {
	case pcSee:
		g.Snap = make([]uint64, g.K)
	case pcCut:
		g.Snap = make([]uint64, deskAt(c, 0))
	}
	return g
}

// numberOf is a number of a guest, and its bounds wherever the guest stands.
type numberOf struct {
	name string
	of   func(g *impl.Guest) *int
	most int
}

func numbersOfGuests(c impl.PlatCfg) []numberOf {
	return []numberOf{
		{"Epoch", func(g *impl.Guest) *int { return &g.Epoch }, 4095},
		{"Next", func(g *impl.Guest) *int { return &g.Next }, 4095},
		{"Seq", func(g *impl.Guest) *int { return &g.Seq }, 1000001},
		{"WhoE", func(g *impl.Guest) *int { return &g.WhoE }, 4095},
		{"Time", func(g *impl.Guest) *int { return &g.Time }, 1048575},
		{"Who", func(g *impl.Guest) *int { return &g.Who }, 7},
		{"N", func(g *impl.Guest) *int { return &g.N }, 20},
		{"K", func(g *impl.Guest) *int { return &g.K }, deskAt(c, 0)},
	}
}

// asksFor says whether a place asks for more of a number than its bounds.
func asksFor(pc int, name string) bool {
	carries := between(pc, pcEntry, pcCarry)
	switch name {
	case "Who":
		return carries || between(pc, pcWatch, pcAid)
	case "N":
		return carries
	case "K":
		return carries || pc == pcSee || pc == pcDesk || pc == pcWrite
	}
	return false
}

// Each number at its least and greatest, one below and one above, and far off,
// at each place.
func TestNumbersOfGuests(t *testing.T) {
	c := deskHouse
	for pc := pcIdle; pc <= pcYield; pc++ {
		seeGuestOk(t, "as it is", c, guestAt(pc), true)
		for _, number := range numbersOfGuests(c) {
			why := number.name + " of a guest"
			for _, n := range []int{math.MinInt, -1 << 32, -1, number.most + 1, number.most + 1<<32, math.MaxInt} {
				g := guestAt(pc)
				*number.of(&g) = n
				seeGuestOk(t, why+" is "+strconv.Itoa(n), c, g, false)
			}
			for _, n := range []int{0, 1, number.most - 1, number.most} {
				g := guestAt(pc)
				*number.of(&g) = n
				if !asksFor(pc, number.name) {
					seeGuestOk(t, why+" is "+strconv.Itoa(n), c, g, true)
				}
			}
		}
	}
}

// The slot of a guest, with its call of the same slot, in houses of all sizes.
func TestSlotsOfGuests(t *testing.T) {
	for _, c := range everyHouse() {
		for _, slot := range append([]int{-2, -1, 0, 1, 2, 3, 4, 5, 7, 8}, numbersThatAreNone(c.Slots)...) {
			g := impl.Guest{Up: true, Slot: slot, Busy: true, Pc: pcBeat, Op: impl.BookOp{Kind: takes, Slot: slot}}
			seeGuestOk(t, "slot", c, g, slot >= 0 && slot < c.Slots)
		}
	}
}

// Busy is who is not idle, and no other one; the places end.
func TestBusyGuests(t *testing.T) {
	c := deskHouse
	for pc := pcIdle; pc <= pcYield; pc++ {
		g := guestAt(pc)
		g.Busy = !g.Busy
		seeGuestOk(t, "busy and idle do not go together", c, g, false)
	}
	for _, pc := range []int{math.MinInt, -27, -1, 27, 28, 1 << 32, math.MaxInt} {
		for _, busy := range []bool{false, true} {
			g := guestAt(pcBeat)
			g.Pc, g.Busy = pc, busy
			seeGuestOk(t, "no place", c, g, false)
		}
	}
}

// The call of a busy guest is its own; of one that is not busy it is no matter.
func TestCallsOfOtherSlots(t *testing.T) {
	c := deskHouse
	for pc := pcIdle; pc <= pcYield; pc++ {
		for _, slot := range []int{-1, 0, 2, 3, math.MinInt, math.MaxInt, 1 + 1<<32} {
			g := guestAt(pc)
			g.Op.Slot = slot
			seeGuestOk(t, "a call of another slot", c, g, pc == pcIdle)
		}
	}
}

// What a guest has that has no bounds: it is ok whatever that is.
func TestWhatHasNoBounds(t *testing.T) {
	c := deskHouse
	for pc := pcIdle; pc <= pcYield; pc++ {
		for _, n := range []int{math.MinInt, -1, 0, 14, mostCount, math.MaxInt} {
			g := guestAt(pc)
			g.Code, g.Val, g.Count, g.Op.Kind, g.Op.B = n, n, n, n, n
			g.Was, g.Door, g.Beat, g.Entry = uint64(n), uint64(n), uint64(n), uint64(n)
			g.Up = n < 0
			if pc != pcCut {
				g.Op.A = n
			}
			seeGuestOk(t, "no bounds", c, g, true)
		}
	}
}

// Snap and Plan of all lengths, at places that ask for none: at most all words
// ahead of the desks, and as many changes as a desk has.
func TestLongLists(t *testing.T) {
	c := deskHouse
	h := deskAt(c, 0)
	for pc := pcIdle; pc <= pcYield; pc++ {
		g := guestAt(pc)
		if pc != pcSee && pc != pcCut {
			for _, n := range []int{0, 1, h - 1, h, h + 1, sizeOf(c), 5 * h} {
				g.Snap = make([]uint64, n)
				seeGuestOk(t, "so much seen", c, g, n <= h)
			}
		}
		g = guestAt(pc)
		for _, n := range []int{2, 3, 4, 19, 20, 21, 22, 1000} {
			g.Plan = make([]uint64, n)
			seeGuestOk(t, "so much planned", c, g, n <= 20)
		}
	}
}

// At GuestSee what was seen is K words, and not all of them.
func TestWhereAGuestSees(t *testing.T) {
	c := deskHouse
	h := deskAt(c, 0)
	for k := range h + 2 {
		for _, n := range []int{k - 1, k, k + 1} {
			g := guestAt(pcSee)
			g.K, g.Snap = k, make([]uint64, max(n, 0))
			seeGuestOk(t, "seeing", c, g, n == k && k < h || k == 0 && n == -1)
		}
	}
}

// At GuestCut all words were seen, and the call is of a slot of the house.
func TestWhereAGuestCuts(t *testing.T) {
	c := deskHouse
	for n := range deskAt(c, 0) + 3 {
		g := guestAt(pcCut)
		g.Snap = make([]uint64, n)
		seeGuestOk(t, "cutting", c, g, n == deskAt(c, 0))
	}
	for slot := -2; slot < 10; slot++ {
		g := guestAt(pcCut)
		g.Op.A = slot
		seeGuestOk(t, "cutting a slot", c, g, between(slot, 0, 2))
	}
	for _, slot := range numbersThatAreNone(3) {
		g := guestAt(pcCut)
		g.Op.A = slot
		seeGuestOk(t, "cutting none", c, g, false)
	}
}

// At GuestDesk and GuestWrite there is something to write, the first word of a
// desk if nothing else.
func TestWhereAGuestWrites(t *testing.T) {
	for _, pc := range []int{pcDesk, pcWrite} {
		for n := range 21 {
			for k := range 23 {
				g := guestAt(pc)
				g.K, g.Plan = k, make([]uint64, n)
				seeGuestOk(t, "writing", deskHouse, g, k <= n)
			}
		}
	}
}

// At GuestEntry, GuestLook and GuestCarry K is one of N changes, and they are
// those of its plan, if they are its own.
func TestWhereAGuestCarries(t *testing.T) {
	for pc := pcEntry; pc <= pcCarry; pc++ {
		for n := -1; n < 22; n++ {
			for k := -1; k < 23; k++ {
				for many := range 22 {
					g := guestAt(pc)
					g.N, g.K, g.Plan = n, k, make([]uint64, many)
					ok := between(n, 0, 20) && between(k, 1, n) && many <= 20
					seeGuestOk(t, "carrying another's", deskHouse, g, ok)
					g.Own = true
					seeGuestOk(t, "carrying its own", deskHouse, g, ok && n == many)
				}
			}
		}
	}
	// At other places N and Plan have nothing to do with each other.
	for pc := pcIdle; pc <= pcYield; pc++ {
		if !between(pc, pcEntry, pcCarry) {
			g := guestAt(pc)
			g.Own, g.N = true, 7
			seeGuestOk(t, "its own", deskHouse, g, true)
		}
	}
}

// Who is a slot of the house, at the places that ask for one; at others any slot
// that a door may name.
func TestWhoIsNoSlot(t *testing.T) {
	for _, c := range []impl.PlatCfg{{Slots: 1, Pages: 2, Lease: 4}, deskHouse, {Slots: 4, Pages: 2, Lease: 4}} {
		for pc := pcIdle; pc <= pcYield; pc++ {
			for who := -1; who < 10; who++ {
				for _, own := range []bool{false, true} {
					g := guestAt(pc)
					g.Slot, g.Op.Slot, g.Op.A = 0, 0, 0
					g.Who, g.Own = who, own
					if pc == pcCut {
						g.Snap = make([]uint64, deskAt(c, 0))
					}
					most := 7
					if between(pc, pcWatch, pcAid) || between(pc, pcEntry, pcCarry) {
						most = c.Slots - 1
					}
					seeGuestOk(t, "who", c, g, between(who, 0, most))
				}
			}
		}
	}
}

// A guest that is ok, in houses that are not.
func TestGuestsOfNoHouse(t *testing.T) {
	for _, c := range wrongHouses() {
		for pc := pcIdle; pc <= pcYield; pc++ {
			seeGuestOk(t, "no house", c, guestAt(pc), false)
		}
	}
}

// GuestAsk, in figures.
func TestAsking(t *testing.T) {
	outside := impl.Guest{Up: true, Slot: 2, Code: 3, Val: 9, Count: 4}
	inside := impl.Guest{Up: true, Slot: 2, Epoch: 6, Code: 3, Val: 9, Count: 4}
	for _, kind := range []int{-1, 0, 1, 2, 3, 4, 5, 6, 7, 8, 1 << 32, math.MinInt, math.MaxInt} {
		for _, g := range []impl.Guest{outside, inside} {
			op := impl.BookOp{Kind: kind, Slot: 2, A: 7, B: 1}
			want := impl.Guest{Up: true, Slot: 2, Epoch: g.Epoch, Op: op, Count: 5}
			switch {
			case kind < 1 || kind > 6:
				want.Code = codeNone
			case kind == 1 && g.Epoch == 6:
				want.Code = codeTaken
			case kind != 1 && g.Epoch == 0:
				want.Code = codeNobody
			default:
				want = g
				want.Busy, want.Op, want.Pc = true, op, pcBeat
				if kind == 1 {
					want.Pc = pcReg
				}
			}
			// Whose call it is called is no matter.
			for _, slot := range []int{2, 0, 3, -1, 4, math.MaxInt} {
				op.Slot = slot
				if got := guestAsk(t, g, op); !sameGuest(got, want) {
					t.Errorf("%v of epoch %d:\n%+v, not\n%+v", op, g.Epoch, got, want)
				}
			}
		}
	}
}

// A guest that is not up, or busy, or has answers enough, is as it is; so is all
// that it has.
func TestAskingInVain(t *testing.T) {
	for pc := pcIdle; pc <= pcYield; pc++ {
		for kind := range 9 {
			op := impl.BookOp{Kind: kind, Slot: 1, A: 1}
			busy := guestAt(pc)
			if pc == pcIdle {
				busy.Busy = true
			}
			dead := guestAt(pc)
			dead.Up = false
			idle := guestAt(pc)
			idle.Up, idle.Busy = false, false
			for _, g := range []impl.Guest{busy, dead, idle} {
				if got := guestAsk(t, g, op); !sameGuest(got, g) {
					t.Errorf("%v:\n%+v, not\n%+v", op, got, g)
				}
			}
		}
	}
	for _, count := range []int{math.MinInt, -1, 0, 999998, 999999, 1000000, 1000001, math.MaxInt} {
		for kind := range 8 {
			g := impl.Guest{Up: true, Epoch: 3, Slot: 1, Count: count, Code: 2}
			op := impl.BookOp{Kind: kind, A: 1}
			got := guestAsk(t, g, op)
			if !sameGuest(got, modelAsk(g, op)) || (count >= 1000000) != sameGuest(got, g) {
				t.Errorf("count %d, kind %d: %+v", count, kind, got)
			}
			if kind == enters && count == 999999 && (got.Count != 1000000 || got.Code != codeTaken) {
				t.Errorf("the last answer: %+v", got)
			}
		}
	}
}

// A guest that is asked keeps what it has; one that is answered at once keeps
// nothing but itself, whatever it had. That it is ok is not asked.
func TestAskingGuestsThatHaveSomething(t *testing.T) {
	for pc := pcIdle; pc <= pcYield; pc++ {
		for _, epoch := range []int{-1, 0, 5, 9999} {
			for _, slot := range []int{-7, 1, 99} {
				for kind := range 8 {
					g := guestAt(pc)
					g.Busy, g.Own, g.Epoch, g.Slot = false, true, epoch, slot
					g.Snap = []uint64{7, 8, 9}
					op := impl.BookOp{Kind: kind, Slot: 3, A: -4, B: 5}
					got := guestAsk(t, g, op)
					if !sameGuest(got, modelAsk(g, op)) {
						t.Errorf("%v at %d: %+v", op, pc, got)
					}
					if !got.Busy && (len(got.Snap) != 0 || len(got.Plan) != 0 || got.Own || got.Pc != 0) {
						t.Errorf("%v is answered, and has something still: %+v", op, got)
					}
				}
			}
		}
	}
	// Answered with a code that is not BookDone nobody leaves.
	g := guestAsk(t, impl.Guest{Up: true, Epoch: 4}, impl.BookOp{Kind: enters})
	if g.Epoch != 4 || g.Code != codeTaken || g.Count != 1 {
		t.Errorf("%+v", g)
	}
}
