package tests

import (
	"testing"

	"loop.example/hostel/impl"
)

// decision is a guest that sees its last word: what it calls, how the words
// stand otherwise than in the scene, where it goes on, and with what.
type decision struct {
	why  string
	op   impl.BookOp
	has  words
	pc   int
	code int
	val  int
	plan []uint64
}

// seeDecisions lets guests of a slot see their last word.
func seeDecisions(t *testing.T, slot int, epoch int, seq int, all []decision) {
	t.Helper()
	for _, s := range all {
		w := s.has.in(scene())
		s.op.Slot = slot
		from := caller(pcSee, func(g *impl.Guest) {
			g.Slot, g.Epoch, g.Op, g.Seq, g.K, g.Snap, g.Who, g.Plan = slot, epoch, s.op, seq, 46, w[:46], 5, []uint64{77}
		})
		to := with(from, func(g *impl.Guest) { g.K, g.Snap, g.Pc, g.Code = 47, w[:47], s.pc, s.code })
		if s.pc == pcDesk {
			to.K, to.Val, to.Plan = 0, s.val, s.plan
		}
		if s.pc == pcCut {
			to.Code = from.Code
		}
		seeSteps(t, []stepping{{s.why, from, s.has, nil, to, didNothing}})
	}
}

// What somebody decides who is in: calls that are planned, and calls that yield.
func TestDecisionsOfCalls(t *testing.T) {
	op := func(kind int, a int, b int) impl.BookOp { return impl.BookOp{Kind: kind, A: a, B: b} }
	noRoom := words{9: 0, 10: 0, 13: 0, 15: 0, 33: 0, 35: 0}
	seeDecisions(t, 0, 2, 20, []decision{
		{"a room is taken", op(takes, 2, 0), nil, pcDesk, codeDone, 2, []uint64{changeOf(10, 5, 20), changeOf(17, 1, 20), changeOf(33, 0, 20)}},
		{"a page is taken", op(takes, 8, 0), nil, pcDesk, codeDone, 8, []uint64{changeOf(14, 4, 20), changeOf(23, 1, 20)}},
		{"no such room", op(takes, 0, 0), nil, pcDesk, codeSize, 0, nil},
		{"no room is left", op(takes, 9, 0), nil, pcDesk, codeFull, 0, nil},
		{"a room is given back", op(gives, 0, 0), nil, pcDesk, codeDone, 0, []uint64{
			changeOf(10, 0, 20), changeOf(13, 0, 20), changeOf(15, 0, 20), changeOf(33, 0, 20), changeOf(35, 0, 20)}},
		{"nothing to give back", op(gives, 2, 0), nil, pcDesk, codeWhere, 0, nil},
		{"another's to give back", op(gives, 0, 0), words{15: wordOf(2, 3)}, pcDesk, codeWhose, 0, nil},
		{"a room is handed on", op(hands, 0, 1), nil, pcDesk, codeDone, 0, []uint64{changeOf(15, 2, 20)}},
		{"a room is handed to itself", op(hands, 0, 0), nil, pcDesk, codeDone, 0, nil},
		{"handed to nobody", op(hands, 0, 2), nil, pcYield, codeWhom, 0, nil},
		{"handed to no slot", op(hands, 0, 3), nil, pcYield, codeWhom, 0, nil},
		{"handed to no slot below", op(hands, 0, -1), nil, pcYield, codeWhom, 0, nil},
		{"nothing to hand to nobody", op(hands, 1, 2), nil, pcDesk, codeWhere, 0, nil},
		{"it has rooms, and leaves", op(leaves, 0, 0), nil, pcDesk, codeKeeps, 0, nil},
		{"it leaves", op(leaves, 0, 0), noRoom, pcDesk, codeDone, 0, []uint64{changeOf(3, 4*2, 20)}},
		{"it comes in once more", op(enters, 0, 0), nil, pcDesk, codeTaken, 0, nil},
		{"no call", op(0, 0, 0), nil, pcYield, codeFenced, 0, nil},
		{"no call behind the last one", op(7, 0, 0), nil, pcYield, codeFenced, 0, nil},
		{"no book", op(takes, 2, 0), words{10: wordOf(99, 3)}, pcYield, codeFenced, 0, nil},
		{"no book by the last word", op(takes, 2, 0), words{46: wordOf(1, 3)}, pcYield, codeFenced, 0, nil},
		{"a slot of no state", op(takes, 2, 0), words{5: regOf(3, 4, 3)}, pcYield, codeFenced, 0, nil},
	})
	// Numbers with which nothing is planned, and with which something is.
	seeDecisions(t, 0, 2, 0, []decision{{"no number", op(takes, 2, 0), nil, pcYield, codeFenced, 0, nil}})
	seeDecisions(t, 0, 2, 1, []decision{{"the first number", op(gives, 2, 0), nil, pcDesk, codeWhere, 0, nil}})
	seeDecisions(t, 0, 2, 1000000, []decision{{"the last number", op(hands, 0, 1), nil, pcDesk, codeDone, 0, []uint64{changeOf(15, 2, 1000000)}}})
}

// Who is not in with its epoch any more yields with BookFenced, whatever it calls.
func TestDecisionsOfTheFenced(t *testing.T) {
	for kind := range 8 {
		op := impl.BookOp{Kind: kind, A: 1, B: 1}
		for why, own := range map[string]uint64{
			"it was cut off":               regOf(cut, 2, 3),
			"it was reaped":                regOf(out, 2, 3),
			"a state that is none":         regOf(3, 2, 3),
			"one behind it is in":          regOf(live, 3, 3),
			"one behind it was cut off":    regOf(cut, 3, 3),
			"one ahead of it is in":        regOf(live, 1, 3),
			"an epoch that is past all":    regOf(live, 2+4096, 3),
			"nobody was ever in":           0,
			"cut off, with another number": regOf(cut, 2, 20),
		} {
			seeDecisions(t, 0, 2, 20, []decision{{why, op, words{3: own}, pcYield, codeFenced, 0, nil}})
		}
		// Whose slot it is to be reaped is no matter then.
		op.A = 0
		seeDecisions(t, 0, 2, 20, []decision{{"its own slot", op, words{3: regOf(cut, 2, 3)}, pcYield, codeFenced, 0, nil}})
	}
}

// What is decided of somebody who is to be reaped.
func TestDecisionsOfReaping(t *testing.T) {
	one := impl.BookOp{Kind: reaps, A: 1}
	slot := func(a int) impl.BookOp { return impl.BookOp{Kind: reaps, A: a} }
	at := func(clock int) words { return words{1: wordOf(clock, 0)} }
	beat := func(time int, stamp int) words { return words{7: wordOf(time, stamp)} }
	end := []uint64{changeOf(4, 4*1, 20)}
	seeDecisions(t, 0, 2, 20, []decision{
		{"its own slot", slot(0), nil, pcYield, codeLives, 0, nil},
		{"its own slot, its lease being over", slot(0), at(5000), pcYield, codeLives, 0, nil},
		{"somebody whose lease is not over", one, nil, pcYield, codeLives, 0, nil},
		{"a tick ahead of the end", one, at(50), pcYield, codeLives, 0, nil},
		{"the last tick of its lease", one, at(51), pcYield, codeLives, 0, nil},
		{"its lease is over", one, at(52), pcCut, 0, 0, nil},
		{"its lease is long over", one, at(mostHalf), pcCut, 0, 0, nil},
		{"it has beaten later than it is", one, beat(90, 1), pcYield, codeLives, 0, nil},
		{"it has not beaten", one, beat(50, 0), pcCut, 0, 0, nil},
		{"one behind it has beaten", one, beat(50, 2), pcYield, codeLives, 0, nil},
		{"one behind it has beaten long ago", one, beat(0, 9), pcYield, codeLives, 0, nil},
		{"it was cut off", one, words{4: regOf(cut, 1, 3)}, pcDesk, codeDone, 0, end},
		{"it was cut off, its lease not being over", one, words{4: regOf(cut, 1, 3), 7: wordOf(50, 1)}, pcDesk, codeDone, 0, end},
		{"it was cut off, and has a room", one, words{4: regOf(cut, 1, 3), 15: wordOf(2, 3)}, pcDesk, codeMore, 0, []uint64{
			changeOf(10, 0, 20), changeOf(13, 0, 20), changeOf(15, 0, 20), changeOf(33, 0, 20), changeOf(35, 0, 20)}},
		{"nobody is in", slot(2), nil, pcYield, codeNobody, 0, nil},
		{"nobody is in, its lease being over", slot(2), at(5000), pcYield, codeNobody, 0, nil},
		{"no slot below", slot(-1), nil, pcYield, codeNobody, 0, nil},
		{"no slot behind", slot(3), nil, pcYield, codeNobody, 0, nil},
		{"no slot, but one of a door", slot(7), nil, pcYield, codeNobody, 0, nil},
		{"no slot far off", slot(1 << 62), nil, pcYield, codeNobody, 0, nil},
		{"a state that is none", one, words{4: regOf(3, 1, 3)}, pcYield, codeFenced, 0, nil},
		{"no book, and it lives", one, words{10: wordOf(99, 3)}, pcYield, codeLives, 0, nil},
		{"no book, and its lease is over", one, words{10: wordOf(99, 3), 1: wordOf(52, 0)}, pcCut, 0, 0, nil},
	})
}

// GuestCut: somebody is cut off, and what is planned behind that.
func TestStepsOfCutting(t *testing.T) {
	cutter := func(slot int, epoch int, whom int, has words) impl.Guest {
		w := has.in(scene())
		return caller(pcCut, func(g *impl.Guest) {
			g.Slot, g.Epoch, g.Op = slot, epoch, impl.BookOp{Kind: reaps, Slot: slot, A: whom, B: 9}
			g.Seq, g.K, g.Snap, g.Who = 20, 47, w[:47], 6
		})
	}
	planned := func(g impl.Guest, whom int, now uint64, code int, plan []uint64) impl.Guest {
		return with(g, func(g *impl.Guest) {
			g.Who, g.Snap[3+whom], g.K, g.Pc, g.Code, g.Val, g.Plan = whom, now, 0, pcDesk, code, 0, plan
		})
	}
	yields := func(g impl.Guest, whom int, now uint64, code int) impl.Guest {
		return with(g, func(g *impl.Guest) { g.Who, g.Snap[3+whom], g.Pc, g.Code = whom, now, pcYield, code })
	}
	again := func(g impl.Guest) impl.Guest {
		return with(g, func(g *impl.Guest) { g.K, g.Snap, g.Pc = 0, nil, pcSee })
	}
	one, zero := cutter(0, 2, 1, nil), cutter(1, 1, 0, nil)
	cutOne, cutZero := regOf(cut, 1, 3), regOf(cut, 2, 3)
	noBook := cutter(0, 2, 1, words{10: wordOf(99, 3)})
	noNumber := with(one, func(g *impl.Guest) { g.Seq = 0 })
	fenced := cutter(0, 2, 1, words{3: regOf(out, 2, 3), 15: wordOf(2, 3)})
	taker := with(one, func(g *impl.Guest) { g.Op.Kind = leaves })
	worn := words{4: regOf(live, 5000, mostHalf)}
	room := []uint64{changeOf(10, 0, 20), changeOf(13, 0, 20), changeOf(15, 0, 20), changeOf(33, 0, 20), changeOf(35, 0, 20)}
	seeSteps(t, []stepping{
		{"it had no rooms", one, nil, words{4: cutOne}, planned(one, 1, cutOne, codeDone, []uint64{changeOf(4, 4, 20)}), didCut},
		{"it had a room", zero, nil, words{3: cutZero}, planned(zero, 0, cutZero, codeMore, room), didCut},
		{"rooms have turned since", one, words{10: 0, 15: 0}, words{4: cutOne}, planned(one, 1, cutOne, codeDone, []uint64{changeOf(4, 4, 20)}), didCut},
		{"no book", noBook, nil, words{4: cutOne}, yields(noBook, 1, cutOne, codeFenced), didCut},
		{"no number", noNumber, nil, words{4: cutOne}, yields(noNumber, 1, cutOne, codeFenced), didCut},
		{"it was not in itself", fenced, nil, words{4: cutOne}, yields(fenced, 1, cutOne, codeNobody), didCut},
		{"another call", taker, nil, words{4: cutOne}, planned(taker, 1, cutOne, codeKeeps, nil), didCut},
		{"an epoch past all", cutter(0, 2, 1, worn), worn, words{4: regOf(cut, 4095, mostHalf)}, planned(cutter(0, 2, 1, worn), 1, regOf(cut, 4095, mostHalf), codeDone, []uint64{changeOf(4, 4*4095, 20)}), didCut},
		{"another has cut it off", one, words{4: cutOne}, nil, again(one), didNothing},
		{"it has left", one, words{4: regOf(out, 1, 3)}, nil, again(one), didNothing},
		{"one behind it is in", one, words{4: regOf(live, 2, 3)}, nil, again(one), didNothing},
		{"it is in with another number", one, words{4: regOf(live, 1, 4)}, nil, again(one), didNothing},
	})
}

// By its own beat nobody is judged who is seen with its lease over in words that
// have turned since: what counts is what was seen.
func TestDecisionsByWhatWasSeen(t *testing.T) {
	old := scene()
	old[1] = wordOf(52, 0)
	from := caller(pcSee, func(g *impl.Guest) {
		g.Op, g.Seq, g.K, g.Snap = impl.BookOp{Kind: reaps, A: 1}, 20, 46, old[:46]
	})
	to := with(from, func(g *impl.Guest) { g.K, g.Snap, g.Pc = 47, old[:47], pcCut })
	seeSteps(t, []stepping{{"it beats", from, words{1: wordOf(50, 0), 3: 0, 7: wordOf(50, 1)}, nil, to, didNothing}})
}
