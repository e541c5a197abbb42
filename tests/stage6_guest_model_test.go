package tests

import (
	"reflect"
	"slices"
	"testing"

	"loop.example/hostel/impl"
)

// Where guests stand, what their steps do, and how far their numbers go, in
// plain figures.
const (
	pcIdle  = 0
	pcBeat  = 1
	pcClock = 2
	pcPulse = 3
	pcReg   = 4
	pcMark  = 5
	pcNow   = 6
	pcSign  = 7
	pcJoin  = 8
	pcDoor  = 9
	pcHold  = 10
	pcSee   = 11
	pcCut   = 12
	pcDesk  = 13
	pcWrite = 14
	pcTurn  = 15
	pcWatch = 16
	pcHear  = 17
	pcTime  = 18
	pcFence = 19
	pcBreak = 20
	pcAid   = 21
	pcEntry = 22
	pcLook  = 23
	pcCarry = 24
	pcOpen  = 25
	pcYield = 26

	didNothing = 0
	didTurn    = 1
	didCut     = 2
	didBreak   = 3
	didJoin    = 4

	codeFenced = 11

	mostDoor  = 1000000
	mostCount = 1000000
)

func regOf(state, ep, st int) uint64 { return wordOf(state+4*ep, st) }

// copyGuest is a guest with lists of its own, none where they are empty.
func copyGuest(g impl.Guest) impl.Guest {
	g.Snap = append([]uint64(nil), g.Snap...)
	g.Plan = append([]uint64(nil), g.Plan...)
	return g
}

// sameGuest compares all that guests have; the empty list is no list.
func sameGuest(a impl.Guest, b impl.Guest) bool {
	return reflect.DeepEqual(copyGuest(a), copyGuest(b))
}

// From here on: the chapter once more, as plainly as can be.

func modelGuestOk(c impl.PlatCfg, g impl.Guest) bool {
	if !between(c.Slots, 1, mostSlots) || !between(c.Pages, 1, mostPages) || !between(c.Lease, 1, mostLease) {
		return false
	}
	h := deskAt(c, 0)
	isSlot := func(n int) bool { return between(n, 0, c.Slots-1) }
	ok := isSlot(g.Slot) && between(g.Epoch, 0, mostEpoch) && between(g.Next, 0, mostEpoch) &&
		between(g.Pc, 0, pcYield) && between(g.Seq, 0, mostDoor+1) && between(g.Who, 0, mostSlot) &&
		between(g.WhoE, 0, mostEpoch) && between(g.N, 0, mostChanges) && between(g.K, 0, h) &&
		between(g.Time, 0, mostVal) && len(g.Snap) <= h && len(g.Plan) <= mostChanges
	if g.Busy {
		ok = ok && g.Pc != pcIdle && g.Op.Slot == g.Slot
	} else {
		ok = ok && g.Pc == pcIdle
	}
	if g.Pc == pcSee {
		ok = ok && len(g.Snap) == g.K && g.K < h
	}
	if g.Pc == pcCut {
		ok = ok && len(g.Snap) == h && isSlot(g.Op.A)
	}
	if g.Pc == pcDesk || g.Pc == pcWrite {
		ok = ok && g.K <= len(g.Plan)
	}
	carries := between(g.Pc, pcEntry, pcCarry)
	if carries {
		ok = ok && between(g.K, 1, g.N) && (!g.Own || g.N == len(g.Plan))
	}
	if carries || between(g.Pc, pcWatch, pcAid) {
		ok = ok && isSlot(g.Who)
	}
	return ok
}

func modelEnd(g impl.Guest, code int, val int) impl.Guest {
	epoch := g.Epoch
	if g.Op.Kind == leaves && code == codeDone {
		epoch = 0
	}
	return impl.Guest{Up: g.Up, Slot: g.Slot, Epoch: epoch, Op: g.Op, Code: code, Val: val, Count: g.Count + 1}
}

func modelAsk(g impl.Guest, op impl.BookOp) impl.Guest {
	g = copyGuest(g)
	if !g.Up || g.Busy || g.Count >= mostCount {
		return g
	}
	op.Slot = g.Slot
	g.Op = op
	if !between(op.Kind, enters, reaps) {
		return modelEnd(g, codeNone, 0)
	}
	if op.Kind == enters && g.Epoch != 0 {
		return modelEnd(g, codeTaken, 0)
	}
	if op.Kind != enters && g.Epoch == 0 {
		return modelEnd(g, codeNobody, 0)
	}
	g.Busy, g.Pc = true, pcBeat
	if op.Kind == enters {
		g.Pc = pcReg
	}
	return g
}

// modelGuest is a step of the model under way.
type modelGuest struct {
	c   impl.PlatCfg
	w   []uint64
	g   impl.Guest
	did int
}

func modelStep(w []uint64, g impl.Guest) ([]uint64, impl.Guest, int) {
	w, g = slices.Clone(w), copyGuest(g)
	c, known := modelHouse(w)
	if !known || len(w) != sizeOf(c) || !modelGuestOk(c, g) || !g.Up || !g.Busy {
		return w, g, didNothing
	}
	m := &modelGuest{c: c, w: w, g: g}
	switch {
	case g.Pc <= pcJoin:
		m.comes()
	case g.Pc <= pcCut:
		m.finds()
	case g.Pc <= pcTurn:
		m.turns()
	case g.Pc <= pcBreak:
		m.watches()
	default:
		m.carries()
	}
	return m.w, m.g, m.did
}

func (m *modelGuest) load(at int) uint64 {
	if at >= len(m.w) {
		return 0
	}
	return m.w[at]
}

func (m *modelGuest) swap(at int, old uint64, now uint64) bool {
	if at >= len(m.w) || m.w[at] != old {
		return false
	}
	m.w[at] = now
	return true
}

func (m *modelGuest) end(code int, val int) { m.g = modelEnd(m.g, code, val) }

// comes: what is done ahead of the door, by somebody who is in, and by somebody
// who is not.
func (m *modelGuest) comes() {
	g := &m.g
	reg, beat := regAt(m.c, g.Slot), beatAt(m.c, g.Slot)
	switch g.Pc {
	case pcBeat:
		g.Was, g.Pc = m.load(beat), pcClock
		if stampOf(g.Was) > g.Epoch {
			m.end(codeFenced, 0)
		}
	case pcClock:
		g.Time, g.Pc = min(valOf(m.load(clockAt)), mostVal), pcPulse
	case pcPulse:
		now := wordOf(g.Time, g.Epoch)
		if g.Was != now && !m.swap(beat, g.Was, now) {
			g.Pc = pcBeat
		} else {
			g.Pc = pcDoor
		}
	case pcReg:
		g.Entry = m.load(reg)
		state, epoch := valOf(g.Entry)%4, valOf(g.Entry)/4
		if state != out {
			m.end(codeTaken, 0)
		} else if epoch >= mostEpoch {
			m.end(codeWorn, 0)
		} else {
			g.Next, g.Pc = epoch+1, pcMark
		}
	case pcMark:
		g.Was, g.Pc = m.load(beat), pcNow
	case pcNow:
		g.Time, g.Pc = min(valOf(m.load(clockAt)), mostVal), pcSign
	case pcSign:
		if stampOf(g.Was) < g.Next && !m.swap(beat, g.Was, wordOf(g.Time, g.Next)) {
			g.Pc = pcMark
		} else {
			g.Pc = pcJoin
		}
	case pcJoin:
		if m.swap(reg, g.Entry, regOf(live, g.Next, stampOf(g.Entry))) {
			m.did, g.Epoch = didJoin, g.Next
			m.end(codeDone, g.Next)
		} else {
			g.Pc = pcReg
		}
	}
}

// finds: the door, what stands in all words, and what follows from that.
func (m *modelGuest) finds() {
	g := &m.g
	switch g.Pc {
	case pcDoor:
		g.Door = m.load(doorAt)
		state, slot := valOf(g.Door)%4, valOf(g.Door)/4%8
		g.Seq, g.Who, g.WhoE = stampOf(g.Door), slot, min(valOf(g.Door)/32, mostEpoch)
		switch {
		case g.Seq > mostDoor, state > doorDone, state != doorFree && slot >= m.c.Slots:
			m.end(codeWorn, 0)
		case state == doorFree && g.Seq == mostDoor:
			m.end(codeWorn, 0)
		case state == doorFree:
			g.Pc = pcHold
		case state == doorHeld:
			g.Pc = pcWatch
		default:
			g.Pc = pcAid
		}
	case pcHold:
		g.Pc = pcDoor
		if m.swap(doorAt, g.Door, doorOf(doorHeld, g.Slot, g.Epoch, g.Seq)) {
			g.K, g.Snap, g.Pc = 0, nil, pcSee
		}
	case pcSee:
		g.Snap = append(g.Snap, m.load(g.K))
		g.K++
		if g.K == deskAt(m.c, 0) {
			m.decide()
		}
	case pcCut:
		at := regAt(m.c, g.Op.A)
		was := g.Snap[at]
		now := regOf(cut, min(valOf(was)/4, mostEpoch), stampOf(was))
		if m.swap(at, was, now) {
			m.did, g.Who, g.Snap[at] = didCut, g.Op.A, now
			m.plan()
		} else {
			g.K, g.Snap, g.Pc = 0, nil, pcSee
		}
	}
}

func (m *modelGuest) yield(code int) { m.g.Code, m.g.Pc = code, pcYield }

func (m *modelGuest) decide() {
	g := &m.g
	if own := valOf(g.Snap[regAt(m.c, g.Slot)]); own%4 != live || own/4 != g.Epoch {
		m.yield(codeFenced)
		return
	}
	if g.Op.Kind == reaps && between(g.Op.A, 0, m.c.Slots-1) {
		state, epoch := valOf(g.Snap[regAt(m.c, g.Op.A)])%4, valOf(g.Snap[regAt(m.c, g.Op.A)])/4
		beat := g.Snap[beatAt(m.c, g.Op.A)]
		fresh := stampOf(beat) == epoch && valOf(g.Snap[clockAt])-valOf(beat) <= m.c.Lease
		if g.Op.A == g.Slot || state == live && (fresh || stampOf(beat) > epoch) {
			m.yield(codeLives)
			return
		}
		if state == live {
			g.Pc = pcCut
			return
		}
	}
	m.plan()
}

// modelPlanOf is a plan by words that may be those of no house, or stand for no
// book.
func modelPlanOf(w []uint64, op impl.BookOp, stamp int) ([]uint64, int, int) {
	c, known := modelHouse(w)
	if !known || len(w) != sizeOf(c) && len(w) != deskAt(c, 0) || !between(stamp, 1, mostPlan) {
		return nil, codeNone, 0
	}
	b, stands := modelBook(w, c)
	if !stands {
		return nil, codeNone, 0
	}
	x, code, val := modelDo(b, op)
	return modelPlan(b, x, stamp), code, val
}

func (m *modelGuest) plan() {
	g := &m.g
	list, code, val := modelPlanOf(g.Snap, g.Op, g.Seq)
	if code == codeNone || len(list) > mostChanges {
		m.yield(codeFenced)
	} else if code == codeWhom || code == codeNobody {
		m.yield(code)
	} else {
		g.Plan, g.Code, g.Val, g.K, g.Pc = list, code, val, 0, pcDesk
	}
}

// turns: the desk is written, and the door turned.
func (m *modelGuest) turns() {
	g := &m.g
	switch g.Pc {
	case pcDesk:
		g.Was, g.Pc = m.load(deskAt(m.c, g.Slot)+g.K), pcWrite
		if stampOf(g.Was) > g.Seq {
			m.end(codeFenced, 0)
		}
	case pcWrite:
		now := append([]uint64{wordOf(len(g.Plan), g.Seq)}, g.Plan...)[g.K]
		if g.Was != now && !m.swap(deskAt(m.c, g.Slot)+g.K, g.Was, now) {
			g.Pc = pcDesk
			return
		}
		g.K, g.Pc = g.K+1, pcDesk
		if g.K == len(g.Plan)+1 {
			g.K, g.Pc = 0, pcTurn
		}
	case pcTurn:
		done := doorOf(doorDone, g.Slot, g.Epoch, g.Seq)
		if !m.swap(doorAt, doorOf(doorHeld, g.Slot, g.Epoch, g.Seq), done) {
			m.end(codeFenced, 0)
			return
		}
		m.did, g.Own, g.Door, g.N, g.K = didTurn, true, done, len(g.Plan), 1
		m.goOn()
	}
}

// watches: another one has the door, and may be dead.
func (m *modelGuest) watches() {
	g := &m.g
	switch g.Pc {
	case pcWatch:
		g.Was, g.Pc = m.load(regAt(m.c, g.Who)), pcHear
		if valOf(g.Was)%4 != live || valOf(g.Was)/4 != g.WhoE {
			g.Pc = pcBreak
		}
	case pcHear:
		g.Beat, g.Pc = m.load(beatAt(m.c, g.Who)), pcTime
	case pcTime:
		since := valOf(m.load(clockAt)) - valOf(g.Beat)
		g.Pc = pcDoor
		if stampOf(g.Beat) < g.WhoE || stampOf(g.Beat) == g.WhoE && since > m.c.Lease {
			g.Pc = pcFence
		}
	case pcFence:
		if m.swap(regAt(m.c, g.Who), g.Was, regOf(cut, g.WhoE, stampOf(g.Was))) {
			m.did = didCut
		}
		g.Pc = pcDoor
	case pcBreak:
		if m.swap(doorAt, doorOf(doorHeld, g.Who, g.WhoE, g.Seq), doorOf(doorFree, 0, 0, g.Seq+1)) {
			m.did = didBreak
		}
		g.Pc = pcDoor
	}
}

func (m *modelGuest) goOn() {
	g := &m.g
	if g.K > g.N {
		g.K, g.Pc = 0, pcOpen
	} else if g.Own {
		g.Pc, g.Entry = pcLook, 0
		if g.K <= len(g.Plan) {
			g.Entry = g.Plan[g.K-1]
		}
	} else {
		g.Pc = pcEntry
	}
}

// carries: changes that were done are carried out, and the door is opened.
func (m *modelGuest) carries() {
	g := &m.g
	at, val := valOf(g.Entry)/(mostVal+1), valOf(g.Entry)%(mostVal+1)
	switch g.Pc {
	case pcAid:
		first := m.load(deskAt(m.c, g.Who))
		if stampOf(first) != g.Seq || valOf(first) > mostChanges {
			g.Pc = pcDoor
			return
		}
		g.N, g.K = valOf(first), 1
		m.goOn()
	case pcEntry:
		g.Entry, g.Pc = m.load(deskAt(m.c, g.Who)+g.K), pcLook
		if stampOf(g.Entry) != g.Seq {
			g.Pc = pcDoor
		}
	case pcLook:
		g.Was, g.Pc = m.load(at), pcCarry
		if stampOf(g.Was) >= g.Seq {
			g.K++
			m.goOn()
		}
	case pcCarry:
		g.Pc = pcLook
		if m.swap(at, g.Was, wordOf(val, g.Seq)) {
			g.K++
			m.goOn()
		}
	case pcOpen:
		m.swap(doorAt, g.Door, doorOf(doorFree, 0, 0, g.Seq+1))
		g.Pc = pcDoor
		if g.Own {
			m.end(g.Code, g.Val)
		}
	case pcYield:
		m.swap(doorAt, doorOf(doorHeld, g.Slot, g.Epoch, g.Seq), doorOf(doorFree, 0, 0, g.Seq+1))
		m.end(g.Code, 0)
	}
}

// The calls of the chapter, with their memory looked at.

// lendGuest is a guest whose lists have spare room behind them, and a question
// whether all of it is still as it was.
func lendGuest(g impl.Guest) (impl.Guest, func() bool) {
	snap, snapAsItWas := lendWords(g.Snap)
	plan, planAsItWas := lendWords(g.Plan)
	g.Snap, g.Plan = snap, plan
	return g, func() bool { return snapAsItWas() && planAsItWas() }
}

// spoilAll writes over lists, each with another number, spare room included;
// false, if two of them share memory.
func spoilAll(lists ...[]uint64) bool {
	for i, list := range lists {
		all := list[:cap(list)]
		for j := range all {
			all[j] = uint64(1000 + i)
		}
	}
	for i, list := range lists {
		for _, word := range list[:cap(list)] {
			if word != uint64(1000+i) {
				return false
			}
		}
	}
	return true
}

func guestAsk(t *testing.T, g impl.Guest, op impl.BookOp) impl.Guest {
	t.Helper()
	lent, asItWas := lendGuest(g)
	got := impl.GuestAsk(lent, op)
	answer := copyGuest(got)
	if !spoilAll(got.Snap, got.Plan) {
		t.Fatalf("%v: lists of the answer share memory: %v", op, answer)
	}
	if !asItWas() {
		t.Fatalf("%v: the guest that was handed in is not as it was: %v", op, g)
	}
	return answer
}

func guestStep(t *testing.T, w []uint64, g impl.Guest) ([]uint64, impl.Guest, int) {
	t.Helper()
	words, wordsAsTheyWere := lendWords(w)
	lent, asItWas := lendGuest(g)
	gotWords, got, did := impl.GuestStep(words, lent)
	answerWords, answer := slices.Clone(gotWords), copyGuest(got)
	if !spoilAll(gotWords, got.Snap, got.Plan) {
		t.Fatalf("lists of the answer share memory: %v", answer)
	}
	if !wordsAsTheyWere() || !asItWas() {
		t.Fatalf("what was handed in is not as it was: %v", g)
	}
	return answerWords, answer, did
}

// seeStep holds a step against the model, and is what the step has answered.
func seeStep(t *testing.T, w []uint64, g impl.Guest) ([]uint64, impl.Guest, int) {
	t.Helper()
	wantWords, want, wantDid := modelStep(w, g)
	words, got, did := guestStep(t, w, g)
	if !slices.Equal(words, wantWords) || !sameGuest(got, want) || did != wantDid {
		t.Fatalf("at %d:\n%+v, %d\nnot\n%+v, %d\nwords %x\nnot   %x", g.Pc, got, did, want, wantDid, words, wantWords)
	}
	return words, got, did
}
