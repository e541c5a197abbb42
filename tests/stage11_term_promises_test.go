package tests

import (
	"slices"
	"testing"

	"loop.example/hostel/impl"
)

// terms is a world in which things happen step by step, and which is asked for P29
// and P30 behind each single one. Of what it has met it counts: by 100 and its
// answer who was fenced when it asked, by 200 and its answer who was fenced in the
// midst of its call, by 300 and its place a step of who is fenced, by 400 what
// steps have done, by 500 and what is left a lease that is not over, by 540 one
// that is, by 550 one that began again, by 600 and how many they are who is dead,
// by 700 who left at last, and by 710 and a state of the register who came to be
// fenced.
type terms struct {
	*chronicle
	// fenced is who is fenced, and vain whose call was asked for by then.
	fenced [mostGuests]bool
	vain   [mostGuests]bool
	many   int
}

func termsOf(t *testing.T, w impl.World, met map[int]int) *terms {
	t.Helper()
	x := &terms{chronicle: chronicleOf(t, w)}
	x.met = met
	x.seeLeases(t)
	return x
}

// apart is the same once more, for something else to happen there; what it meets
// is counted here, too.
func (x *terms) apart() *terms {
	inner := *x.chronicle
	y := *x
	y.chronicle = &inner
	return &y
}

// sees lets something happen, one step behind the other.
func (x *terms) sees(t *testing.T, e impl.WorldEvent) {
	t.Helper()
	if e.Kind != stepsKind {
		was := x.w
		x.w = impl.WorldDo(was, e)
		if e.Kind == asksKind && between(e.I, 0, len(was.Guests)-1) && !was.Guests[e.I].Busy {
			x.vain[e.I] = x.fenced[e.I]
		}
		x.seeBehind(t, was, e, didNothing)
		return
	}
	for range min(e.N, mostSteps) {
		if !between(e.I, 0, len(x.w.Guests)-1) || !x.w.Guests[e.I].Up || !x.w.Guests[e.I].Busy {
			return
		}
		was := x.w
		did := 0
		x.w, did = impl.WorldOne(was, e.I)
		x.seeBehind(t, was, e, did)
		x.met[400+did]++
	}
}

// seeBehind asks for both promises behind what has happened.
func (x *terms) seeBehind(t *testing.T, was impl.World, e impl.WorldEvent, did int) {
	t.Helper()
	if !slices.Equal(was.Words, x.w.Words) {
		x.b, _ = impl.WorldBook(x.w)
		x.seeLeases(t)
		x.seeTime(t, was, e)
		x.seeTicks(t)
	}
	x.seeFences(t, was, e, did)
}

// seeLeases asks for the first half of P29; and that of somebody who is in the beat
// is its own, and not ahead of the clock, so that no more is left than a lease.
func (x *terms) seeLeases(t *testing.T) {
	t.Helper()
	w := x.w.Words
	c, _ := modelHouse(w)
	var dead []int
	for slot := range c.Slots {
		left, over := impl.TermLeft(w, slot), impl.TermOver(w, slot)
		state, epoch := valOf(w[regAt(c, slot)])%4, valOf(w[regAt(c, slot)])/4
		if left != modelLeft(w, slot) || over != modelOver(w, slot) || over && left > 0 || left > c.Lease {
			t.Fatalf("slot %d: left %d, over %v: %x", slot, left, over, w)
		}
		if state != live && (over || left > 0) || state == live && stampOf(w[beatAt(c, slot)]) != epoch {
			t.Fatalf("slot %d: left %d, over %v, and the register %d, %d: %x", slot, left, over, state, epoch, w)
		}
		if over || state == cut {
			dead = append(dead, slot)
		}
		if over {
			x.met[540]++
		} else if state == live {
			x.met[500+left]++
		}
	}
	if got := impl.TermDead(w); !slices.Equal(got, dead) {
		t.Fatalf("dead are %v, not %v: %x", got, dead, w)
	}
	x.met[600+len(dead)]++
}

// seeTime asks what an event has made of each lease that was there ahead of it: a
// tick takes as much as it is, and all else nothing; only who is in there beats.
func (x *terms) seeTime(t *testing.T, was impl.World, e impl.WorldEvent) {
	t.Helper()
	c, _ := modelHouse(was.Words)
	ticks := valOf(x.w.Words[clockAt]) - valOf(was.Words[clockAt])
	for slot := range c.Slots {
		reg := was.Words[regAt(c, slot)]
		if valOf(reg)%4 != live || x.w.Words[regAt(c, slot)] != reg {
			continue
		}
		left, over := impl.TermLeft(was.Words, slot), impl.TermOver(was.Words, slot)
		now, is := impl.TermLeft(x.w.Words, slot), impl.TermOver(x.w.Words, slot)
		if was.Words[beatAt(c, slot)] == x.w.Words[beatAt(c, slot)] {
			if now != max(left-ticks, 0) || is != (over || ticks > left) {
				t.Fatalf("%+v, %d ticks: slot %d had %d, %v, has %d, %v: %+v", e, ticks, slot, left, over, now, is, was)
			}
			continue
		}
		g := was.Guests[e.I]
		gone := valOf(was.Words[clockAt]) - g.Time
		if g.Slot != slot || g.Pc != pcPulse || g.Epoch != valOf(reg)/4 || now != max(c.Lease-gone, 0) || now < left || is != (gone > c.Lease) {
			t.Fatalf("%+v: slot %d had %d, has %d, %v: %+v", e, slot, left, now, is, was)
		}
		x.met[550]++
	}
}

// seeTicks asks for the second half of P29: how it is when just as many ticks more
// have gone by as are left, and when it is one more. Now and then it is asked tick
// by tick, and by all of whom somebody is up.
func (x *terms) seeTicks(t *testing.T) {
	t.Helper()
	c, _ := modelHouse(x.w.Words)
	x.many++
	for slot := range c.Slots {
		if valOf(x.w.Words[regAt(c, slot)])%4 != live {
			continue
		}
		left, over := impl.TermLeft(x.w.Words, slot), impl.TermOver(x.w.Words, slot)
		ticks := []int{left, left + 1}
		if x.many%20 == 0 {
			ticks = []int{0, 1, 2, 3, 4, 5, 6, 7, mostTicks}
		}
		for _, n := range ticks {
			w := impl.WorldDo(x.w, ticksOf(n)).Words
			n = valOf(w[clockAt]) - valOf(x.w.Words[clockAt])
			if impl.TermOver(w, slot) != (over || n > left) || impl.TermLeft(w, slot) != max(left-n, 0) {
				t.Fatalf("slot %d has %d, %v, and behind %d ticks %d, %v: %x",
					slot, left, over, n, impl.TermLeft(w, slot), impl.TermOver(w, slot), x.w.Words)
			}
		}
	}
}

// seeFences asks for P30: who is fenced stays so, but for who is told that it has
// left, as that happened ahead of it; no call of it happens, and none that it asks
// for behind it comes to anything.
func (x *terms) seeFences(t *testing.T, was impl.World, e impl.WorldEvent, did int) {
	t.Helper()
	if e.Kind == stepsKind && x.fenced[e.I] {
		x.met[300+was.Guests[e.I].Pc]++
		if did == didTurn || did == didJoin {
			t.Fatalf("guest %d is fenced, and did %d: %+v", e.I, did, was)
		}
	}
	for i, g := range x.w.Guests {
		is := impl.TermFenced(x.w, i)
		if is != modelFenced(x.w, i) {
			t.Fatalf("guest %d: fenced %v: %+v", i, is, x.w)
		}
		switch {
		case is && !x.fenced[i]:
			x.seeFirst(t, was, i)
		case !is && x.fenced[i]:
			x.seeLeft(t, was, i)
		}
		if i < len(was.Guests) && g.Count > was.Guests[i].Count && x.fenced[i] && is {
			x.seeRefused(t, was, i)
		}
		x.fenced[i] = is
	}
}

// seeFirst asks of who has come to be fenced that its slot's word in the register
// was turned just now, and that it is not in by the true book, either.
func (x *terms) seeFirst(t *testing.T, was impl.World, i int) {
	t.Helper()
	g := x.w.Guests[i]
	reg := x.w.Words[3+g.Slot]
	if reg == was.Words[3+g.Slot] || x.b.In[g.Slot] != out && x.b.Epoch[g.Slot] == g.Epoch {
		t.Fatalf("guest %d is fenced: %+v, behind %+v", i, x.w, was)
	}
	x.met[710+valOf(was.Words[3+g.Slot])%4]++
}

// seeLeft asks of who is fenced no more that it was told just now that it has left,
// which it had turned itself.
func (x *terms) seeLeft(t *testing.T, was impl.World, i int) {
	t.Helper()
	g, h := was.Guests[i], x.w.Guests[i]
	if !g.Own || g.Op.Kind != leaves || h.Code != codeDone || h.Epoch != 0 || h.Count != g.Count+1 {
		t.Fatalf("guest %d is fenced no more: %+v, behind %+v", i, h, g)
	}
	x.met[700]++
}

// seeRefused asks what who is fenced was told: behind it, that it is fenced, or
// what is told to who is in, to who asks for nothing, or of worn doors; and for a
// call that it had asked for ahead of it, what had happened, or that it is fenced,
// or what else is told when nothing has happened.
func (x *terms) seeRefused(t *testing.T, was impl.World, i int) {
	t.Helper()
	g, h := was.Guests[i], x.w.Guests[i]
	ok := slices.Contains([]int{codeFenced, codeTaken, codeNone, codeWorn}, h.Code)
	if !x.vain[i] {
		ok = ok || g.Own || slices.Contains([]int{codeLives, codeWhom, codeNobody}, h.Code)
		x.met[200+h.Code]++
	} else {
		ok = ok && (h.Code != codeTaken || h.Op.Kind == enters) && h.Val == 0
		x.met[100+h.Code]++
	}
	if !ok || h.Epoch != g.Epoch {
		t.Fatalf("guest %d is fenced, and was told %d, %d: %+v, behind %+v", i, h.Code, h.Val, h, g)
	}
}

// follows puts others in the places of who is dead, and of most who are fenced.
func (x *terms) follows(d *dice) {
	c, _ := modelHouse(x.w.Words)
	x.w = copyWorld(x.w)
	for i, g := range x.w.Guests {
		if !g.Up || !g.Busy && x.fenced[i] && d.below(3) > 0 {
			x.w.Guests[i], x.fenced[i] = impl.GuestNew(d.below(c.Slots)), false
		}
	}
}

// calls lets a guest make a call, as far as it comes.
func (x *terms) calls(t *testing.T, i int, op impl.BookOp) impl.Guest {
	t.Helper()
	x.sees(t, asksOf(i, op.Kind, op.A, op.B))
	x.sees(t, stepsOf(i, mostSteps))
	return x.w.Guests[i]
}

// happensAt lets a guest go on until it stands at a place.
func (x *terms) happensAt(t *testing.T, i int, pc int) {
	t.Helper()
	for n := 0; x.w.Guests[i].Pc != pc; n++ {
		x.sees(t, stepsOf(i, 1))
		if n > mostSteps || !x.w.Guests[i].Busy {
			t.Fatalf("guest %d never stands at %d: %+v", i, pc, x.w.Guests[i])
		}
	}
}

// wordsOf are the words of a guest's call, one behind the other: at each of them
// something else may happen apart from it. Of those that it only sees some will do.
func (x *terms) wordsOf(t *testing.T, i int, every int, see func(n int, y *terms)) {
	t.Helper()
	for n := 0; x.w.Guests[i].Busy && n < 200; n++ {
		if x.w.Guests[i].Pc != pcSee || n%every == 0 {
			see(n, x.apart())
		}
		x.sees(t, stepsOf(i, 1))
	}
}

// tenantsIn is a world in which as many guests are in as there are slots, with a
// room of two units each, and one more is there for the first one's slot; the
// first one is asked for a call, and has given its room back ahead of that, if it
// is to leave.
func tenantsIn(t *testing.T, c impl.PlatCfg, op impl.BookOp, met map[int]int) *terms {
	t.Helper()
	x := termsOf(t, impl.WorldOpen(c), met)
	for slot := range c.Slots {
		x.sees(t, bornAt(slot))
		x.calls(t, slot, impl.BookOp{Kind: enters})
		x.calls(t, slot, impl.BookOp{Kind: takes, A: 2})
	}
	x.sees(t, bornAt(0))
	if op.Kind == leaves {
		x.calls(t, 0, impl.BookOp{Kind: gives, A: 0})
	}
	x.sees(t, asksOf(0, op.Kind, op.A, op.B))
	return x
}

// P29 and P30 on walks of guests that go on at single words, die, are cut off and
// are born, in houses of many sizes.
func TestTermsOfWalks(t *testing.T) {
	onOneProcessor(t)
	met := map[int]int{}
	for n := range 24 {
		d := dice(1400 + n)
		c := impl.PlatCfg{Slots: 1 + n%mostSlots, Pages: 1 + n/mostSlots%3, Lease: 1 + d.below(5)}
		x := termsOf(t, impl.WorldOpen(c), met)
		for range 5 {
			for range 250 {
				e := x.word(&d)
				if n%6 == 5 {
					e = d.sensible(x.w)
				}
				x.sees(t, e)
			}
			x.follows(&d)
		}
	}
	seeMet(t, met, 100+codeFenced, 200+codeFenced, 300+pcBeat, 300+pcSee, 300+pcYield,
		400+didTurn, 400+didCut, 400+didBreak, 400+didJoin, 500, 501, 505, 540, 550, 600, 601, 602, 700, 710+live, 710+cut)
}

// behindStop is what happens behind a guest that has stopped: the second one makes
// a call and comes some way, time goes by, the first one is reaped, others come in
// at its slot and leave it, and the first one wakes up in the midst of that, and
// asks for more.
func (x *terms) behindStop(t *testing.T, second impl.BookOp, n int, dies bool) {
	t.Helper()
	if dies {
		x.sees(t, diesOf(0))
	}
	x.sees(t, asksOf(1, second.Kind, second.A, second.B))
	x.sees(t, stepsOf(1, 10+n*7%60))
	x.sees(t, ticksOf(n%4))
	x.sees(t, stepsOf(0, n%3*2))
	x.sees(t, ticksOf(4))
	x.sees(t, stepsOf(1, mostSteps))
	for range 4 {
		if g := x.calls(t, 1, impl.BookOp{Kind: reaps, A: 0}); g.Code != codeMore {
			break
		}
	}
	x.calls(t, 2, impl.BookOp{Kind: enters})
	if n%2 == 0 {
		x.calls(t, 2, impl.BookOp{Kind: leaves})
		x.calls(t, 2, impl.BookOp{Kind: enters})
	}
	x.sees(t, asksOf(2, takes, 2, 0))
	x.sees(t, stepsOf(2, n*3%60))
	x.sees(t, stepsOf(0, mostSteps))
	x.sees(t, stepsOf(2, mostSteps))
	x.calls(t, 0, impl.BookOp{Kind: 2 + n%5, A: n % 3, B: n % 2})
	x.calls(t, 0, impl.BookOp{Kind: enters})
}

// P29 and P30: at each word of each call a guest stops or dies.
func TestTermsAtEachWord(t *testing.T) {
	onOneProcessor(t)
	others := []impl.BookOp{{Kind: takes, A: 2}, {Kind: gives, A: 2}, {Kind: reaps, A: 0}, {Kind: hands, A: 2, B: 0}}
	met := map[int]int{}
	for _, op := range firstCalls() {
		x := tenantsIn(t, impl.PlatCfg{Slots: 2, Pages: 2, Lease: 3}, op, met)
		if op.Kind == reaps {
			x.sees(t, ticksOf(4))
		}
		x.wordsOf(t, 0, 15, func(n int, y *terms) {
			for k, second := range others {
				y.apart().behindStop(t, second, n+k, (n/2+k)%3 == 0)
			}
		})
	}
	seeMet(t, met, 100+codeFenced, 100+codeTaken, 200+codeDone, 200+codeFenced, 300+pcWrite, 300+pcTurn, 300+pcLook, 300+pcOpen,
		400+didTurn, 400+didCut, 400+didBreak, 400+didJoin, 500, 503, 540, 550, 600, 601, 602, 700, 710+live, 710+cut)
}

// P29 and P30: at each word of each call anything may happen, births too.
func TestTermsOfWalksFromEachWord(t *testing.T) {
	onOneProcessor(t)
	d := dice(1500)
	met := map[int]int{}
	for _, op := range firstCalls() {
		c := impl.PlatCfg{Slots: 2 + d.below(2), Pages: 1, Lease: 1 + d.below(4)}
		tenantsIn(t, c, op, met).wordsOf(t, 0, 9, func(n int, y *terms) {
			y.sees(t, ticksOf(n%3*2))
			for range 120 {
				y.sees(t, y.word(&d))
			}
		})
	}
	seeMet(t, met, 200+codeFenced, 300+pcOpen, 400+didTurn, 400+didCut, 400+didBreak, 400+didJoin,
		500, 501, 540, 550, 600, 601, 602, 700, 710+live, 710+cut)
}

// P29 and P30: at each word of a call of the first one, that holds the door, the
// second one cuts it off, having seen its lease run out; so it does at each word
// ahead of that, when it has come to reap it.
func TestTermsOfCutsAtEachWord(t *testing.T) {
	onOneProcessor(t)
	met := map[int]int{}
	for _, op := range firstCalls() {
		for _, place := range []int{pcFence, pcCut} {
			x := tenantsIn(t, impl.PlatCfg{Slots: 2, Pages: 2, Lease: 3}, op, met)
			by := impl.BookOp{Kind: reaps, A: 0}
			if place == pcFence {
				x.happensAt(t, 0, pcSee)
				by = impl.BookOp{Kind: takes, A: 2}
			}
			x.sees(t, ticksOf(4))
			x.sees(t, asksOf(1, by.Kind, by.A, by.B))
			x.happensAt(t, 1, place)
			x.wordsOf(t, 0, 9, func(n int, y *terms) {
				// Where the second one holds the door, the first one comes there, and
				// goes round then.
				if place == pcCut && n > 12 {
					return
				}
				for k := range 3 {
					y.apart().behindCut(t, n, k)
				}
			})
		}
	}
	seeMet(t, met, 100+codeFenced, 200+codeDone, 200+codeFenced, 400+didTurn, 400+didCut, 400+didBreak, 400+didJoin,
		501, 503, 540, 550, 600, 601, 700, 710+live, 710+cut)
}

// behindCut is what happens behind a cut: the one that was cut off goes on ahead of
// the other one, or behind it, and asks for more; or it stops, or dies; it is
// reaped, and wakes up behind that, or asks for more in vain.
func (x *terms) behindCut(t *testing.T, n int, k int) {
	t.Helper()
	x.sees(t, stepsOf(1, 1))
	switch {
	case k < 2:
		x.sees(t, stepsOf(k, 5+n*7%40))
		x.sees(t, stepsOf(1-k, mostSteps))
		x.sees(t, stepsOf(k, mostSteps))
		x.sees(t, asksOf(0, 2+n%5, n%8, 1))
		x.sees(t, stepsOf(0, n*5%60))
	case n%4 == 0:
		x.sees(t, diesOf(0))
	}
	x.sees(t, ticksOf(n%3*2))
	x.sees(t, stepsOf(1, mostSteps))
	for range 5 {
		if g := x.calls(t, 1, impl.BookOp{Kind: reaps, A: 0}); g.Code != codeMore {
			break
		}
	}
	x.calls(t, 2, impl.BookOp{Kind: enters})
	x.sees(t, stepsOf(0, mostSteps))
	x.calls(t, 0, impl.BookOp{Kind: leaves})
	x.calls(t, 2, impl.BookOp{Kind: leaves})
	x.calls(t, 0, impl.BookOp{Kind: takes, A: 1})
}

// P29 and P30: two stop or die, one at each word of its call, and the other one at
// each word of its own; a third one goes on, and reaps them, and they wake up.
func TestTermsBehindTwo(t *testing.T) {
	onOneProcessor(t)
	met := map[int]int{}
	d := dice(1600)
	pairs := [][2]impl.BookOp{
		{{Kind: leaves}, {Kind: gives, A: 2}},
		{{Kind: gives, A: 0}, {Kind: reaps, A: 0}},
		{{Kind: hands, A: 0, B: 2}, {Kind: takes, A: 2}},
	}
	for which, ops := range pairs {
		x := tenantsIn(t, impl.PlatCfg{Slots: 3, Pages: 1, Lease: 2}, ops[0], met)
		x.wordsOf(t, 0, 16, func(n int, y *terms) {
			if n%3 != which && y.w.Guests[0].Pc < pcTurn {
				return
			}
			y.sees(t, ticksOf(n%2*3))
			y.sees(t, asksOf(1, ops[1].Kind, ops[1].A, ops[1].B))
			y.wordsOf(t, 1, 16, func(m int, z *terms) {
				if (n+m)%3 == 0 {
					z.behindBoth(t, &d, n, m)
				}
			})
		})
	}
	seeMet(t, met, 100+codeFenced, 200+codeDone, 200+codeFenced, 400+didTurn, 400+didCut, 400+didBreak, 400+didJoin,
		500, 502, 540, 550, 600, 601, 602, 700, 710+live, 710+cut)
}

// behindBoth lets the third one reap the two that have stopped, with whom all go on
// by some words in between, and another one come in.
func (x *terms) behindBoth(t *testing.T, d *dice, n int, m int) {
	t.Helper()
	if dead := (n/2 + m/3) % 4; dead < 2 {
		x.sees(t, diesOf(dead))
	}
	x.sees(t, ticksOf(1+m%3))
	for _, slot := range []int{n % 2, 1 - n%2} {
		x.sees(t, asksOf(2, reaps, slot, 0))
		for range 6 {
			x.sees(t, stepsOf(d.below(3), 1+d.below(4)*d.below(12)))
		}
		x.sees(t, stepsOf(2, mostSteps))
		x.calls(t, 2, impl.BookOp{Kind: reaps, A: slot})
	}
	x.sees(t, asksOf(3, enters, 0, 0))
	for _, i := range []int{1, 3, 0, 1, 3, 0} {
		x.sees(t, stepsOf(i, 4+d.below(60)))
	}
	x.calls(t, n%2, impl.BookOp{Kind: 2 + m%5, A: 4, B: 2})
}

// P30: at each word of each call a guest stops and is reaped; from then on it is
// fenced, whatever happens: others come in and go, it asks for all calls, time goes
// by, and it dies. But of who has turned its leaving that is told, and it may come
// in again.
func TestFencedForGood(t *testing.T) {
	onOneProcessor(t)
	met := map[int]int{}
	left := 0
	for _, op := range firstCalls() {
		x := tenantsIn(t, impl.PlatCfg{Slots: 2, Pages: 2, Lease: 3}, op, met)
		x.wordsOf(t, 0, 5, func(n int, y *terms) {
			leaving := y.w.Guests[0].Own && op.Kind == leaves
			y.sees(t, ticksOf(4))
			for y.calls(t, 1, impl.BookOp{Kind: reaps, A: 0}).Code == codeMore {
				continue
			}
			if !y.fenced[0] || y.fenced[1] {
				t.Fatalf("%v, at word %d: slot 0 was reaped: %+v", op, n, y.w)
			}
			if leaving {
				left++
				y.sees(t, stepsOf(0, mostSteps))
				if g := y.w.Guests[0]; y.fenced[0] || g.Code != codeDone || g.Epoch != 0 {
					t.Fatalf("it has left: %+v", g)
				}
				if g := y.calls(t, 0, impl.BookOp{Kind: enters}); g.Code != codeDone || y.fenced[0] {
					t.Fatalf("it comes in again: %+v", g)
				}
				return
			}
			y.staysFenced(t, n)
		})
	}
	if left < 3 {
		t.Errorf("it has left %d times", left)
	}
	seeMet(t, met, 100+codeFenced, 100+codeTaken, 100+codeNone, 200+codeDone, 200+codeFenced, 300+pcSee, 700)
}

// staysFenced lets happen whatever may happen to the first guest.
func (x *terms) staysFenced(t *testing.T, n int) {
	t.Helper()
	epoch := x.w.Guests[0].Epoch
	for round := range 2 {
		if n%2 == round {
			x.sees(t, stepsOf(0, mostSteps))
		}
		x.calls(t, 2, impl.BookOp{Kind: enters})
		for kind := 0; kind <= 7; kind++ {
			x.calls(t, 0, impl.BookOp{Kind: kind, A: kind % 2, B: 1})
			x.sees(t, ticksOf(kind%3))
		}
		x.calls(t, 2, impl.BookOp{Kind: leaves})
	}
	x.sees(t, diesOf(0))
	for _, e := range []impl.WorldEvent{asksOf(0, enters, 0, 0), stepsOf(0, 3), ticksOf(9), bornAt(0), diesOf(0)} {
		x.sees(t, e)
	}
	if g := x.w.Guests[0]; !x.fenced[0] || g.Epoch != epoch {
		t.Fatalf("it is not fenced: %+v", g)
	}
}

// A guest that is told that it has left is not fenced behind it, though it was when
// its leaving was carried out, by itself or by another one; who has died in between
// is fenced for good.
func TestFencedWhileItLeaves(t *testing.T) {
	x := tenantsIn(t, impl.PlatCfg{Slots: 2, Pages: 1, Lease: 3}, impl.BookOp{Kind: leaves}, map[int]int{})
	x.happensAt(t, 0, pcLook)
	if x.fenced[0] || x.w.Guests[0].Code != codeDone {
		t.Fatalf("it has turned it: %+v", x.w)
	}
	other := x.apart()
	other.sees(t, asksOf(1, takes, 2, 0))
	other.sees(t, stepsOf(1, mostSteps))
	if g := other.w.Guests[1]; !other.fenced[0] || g.Code != codeDone || !other.w.Guests[0].Busy {
		t.Fatalf("another one has carried it out: %+v", other.w)
	}
	dies := other.apart()
	dies.sees(t, diesOf(0))
	dies.staysFenced(t, 0)
	other.sees(t, stepsOf(0, mostSteps))
	x.happensAt(t, 0, pcOpen)
	if !x.fenced[0] {
		t.Fatalf("it has carried it out: %+v", x.w)
	}
	x.sees(t, stepsOf(0, 1))
	for _, y := range []*terms{x, other} {
		if g := y.w.Guests[0]; y.fenced[0] || g.Epoch != 0 || g.Code != codeDone {
			t.Fatalf("it was told: %+v", g)
		}
		y.calls(t, 0, impl.BookOp{Kind: enters})
		if g := y.w.Guests[0]; y.fenced[0] || g.Epoch != 2 {
			t.Fatalf("it has come in again: %+v", g)
		}
	}
}

// Each lease in figures, tick by tick, from the beat of a call on; and with a call
// in between it begins again, when that has beaten.
func TestTicksOfLeases(t *testing.T) {
	onOneProcessor(t)
	for lease := 1; lease <= mostLease; lease++ {
		c := impl.PlatCfg{Slots: 1 + lease%mostSlots, Pages: 1, Lease: lease}
		slot := lease % c.Slots
		w := impl.WorldPlay(impl.WorldOpen(c), []impl.WorldEvent{ticksOf(7), bornAt(slot), asksOf(0, enters, 0, 0), stepsOf(0, 4)})
		seeTerm(t, "it is not in yet", w.Words, slot, 0, false)
		w = impl.WorldDo(w, stepsOf(0, 1))
		for round := range 3 {
			for n := range lease + 3 {
				seeTerm(t, "tick by tick", w.Words, slot, max(lease-n, 0), n > lease)
				if dead := map[bool][]int{true: {slot}}[n > lease]; round == n%3 {
					seeDeadSlots(t, "tick by tick", w.Words, dead...)
				}
				w = impl.WorldDo(w, ticksOf(1))
			}
			// Up to its beat a call leaves the lease as it is.
			w = impl.WorldPlay(w, []impl.WorldEvent{asksOf(0, takes, 1, 0), stepsOf(0, 2)})
			seeTerm(t, "it has not beaten", w.Words, slot, 0, true)
			w = impl.WorldDo(w, stepsOf(0, 1))
			seeTerm(t, "it has beaten", w.Words, slot, lease, false)
			w = impl.WorldDo(w, stepsOf(0, mostSteps))
		}
		// A beat by an old look at the clock is as old as that.
		w = impl.WorldPlay(w, []impl.WorldEvent{ticksOf(1), asksOf(0, takes, 1, 0), stepsOf(0, 2), ticksOf(lease - 1)})
		seeTerm(t, "it has looked", w.Words, slot, 0, false)
		w = impl.WorldDo(w, stepsOf(0, 1))
		seeTerm(t, "it has beaten late", w.Words, slot, 1, false)
	}
}

// Near the end of the clock ticks go by no more, and what is left stays; and near
// the ends of epochs and of the door's numbers all is as it is elsewhere.
func TestTermsNearTheEnds(t *testing.T) {
	onOneProcessor(t)
	met := map[int]int{}
	for n := range 12 {
		d := dice(1700 + n)
		w := impl.WorldOpen(impl.PlatCfg{Slots: 2, Pages: 1, Lease: 3})
		switch n % 3 {
		case 0:
			w.Words[2] = doorOf(doorFree, 0, 0, mostDoor-12)
		case 1:
			w.Words[3], w.Words[4] = regOf(out, 4092, 0), regOf(out, 4094, 0)
		case 2:
			w.Words[1] = wordOf(mostVal-6, 0)
		}
		x := termsOf(t, w, met)
		for range 3 {
			for range 250 {
				x.sees(t, x.word(&d))
			}
			x.follows(&d)
		}
	}
	seeMet(t, met, 100+codeFenced, 400+didTurn, 400+didJoin, 500, 503, 540, 550)
	for many := range 5 {
		x := tenantsIn(t, impl.PlatCfg{Slots: 1, Pages: 1, Lease: 3}, impl.BookOp{Kind: takes, A: 1}, met)
		x.w.Words[clockAt] = wordOf(mostVal-many, 0)
		x.sees(t, stepsOf(0, mostSteps))
		x.sees(t, ticksOf(mostTicks))
		seeTerm(t, "at the end of the clock", x.w.Words, 0, max(3-many, 0), many > 3)
	}
}
