package tests

import (
	"slices"
	"testing"

	"loop.example/hostel/impl"
)

// told is a guest that steps alone, each step held against the model: its words,
// what it has come to, how many steps it has made, and what they have done.
type told struct {
	w     []uint64
	g     impl.Guest
	steps int
	dids  []int
}

func (x *told) step(t *testing.T) {
	t.Helper()
	c, _ := modelHouse(x.w)
	w, g, did := seeStep(t, x.w, x.g)
	if at := seeKept(t, c, x.w, w, x.g, g); at >= 0 {
		seeItsOwn(t, c, x.g, at, x.w[at], w[at], did)
	}
	x.w, x.g, x.steps = w, g, x.steps+1
	if did != didNothing {
		x.dids = append(x.dids, did)
	}
}

// end lets the guest step until it is answered.
func (x *told) end(t *testing.T) {
	t.Helper()
	for x.g.Busy {
		x.step(t)
		if x.steps > 1500 {
			t.Fatalf("no end: %+v", x.g)
		}
	}
}

// calling is a guest that is asked, and has not gone on yet.
func calling(t *testing.T, w []uint64, g impl.Guest, op impl.BookOp) *told {
	t.Helper()
	return &told{w: w, g: guestAsk(t, g, op)}
}

// called is a guest that is asked, and has its answer.
func called(t *testing.T, w []uint64, g impl.Guest, op impl.BookOp) *told {
	t.Helper()
	x := calling(t, w, g, op)
	x.end(t)
	return x
}

// guestOf is a guest that is in, or with epoch 0 is not.
func guestOf(slot int, epoch int) impl.Guest {
	return impl.Guest{Up: true, Slot: slot, Epoch: epoch, Count: 11}
}

// heard is a call of a guest alone in the scene, and what it is told.
type heard struct {
	why   string
	g     impl.Guest
	op    impl.BookOp
	has   words
	code  int
	val   int
	steps int
	dids  []int
	epoch int
}

func seeHeard(t *testing.T, all []heard) {
	t.Helper()
	for _, s := range all {
		x := called(t, s.has.in(scene()), s.g, s.op)
		s.op.Slot = s.g.Slot
		want := impl.Guest{Up: true, Slot: s.g.Slot, Epoch: s.epoch, Op: s.op, Code: s.code, Val: s.val, Count: 12}
		if !sameGuest(x.g, want) || x.steps != s.steps || !slices.Equal(x.dids, s.dids) {
			t.Errorf("%s: %d steps, not %d, did %v, not %v:\n%+v, not\n%+v", s.why, x.steps, s.steps, x.dids, s.dids, x.g, want)
		}
	}
}

// A call of every kind by one guest alone, from its asking to its answer, with
// its code, its number, its Count and its steps: 5 to the door, 47 to see, two
// for the first word of the desk, four for each change, two to turn and to open.
func TestCallsOfOneAlone(t *testing.T) {
	op := func(kind int, a int, b int) impl.BookOp { return impl.BookOp{Kind: kind, A: a, B: b} }
	zero, one, two := guestOf(0, 2), guestOf(1, 1), guestOf(2, 0)
	turned := []int{didTurn}
	late := words{1: wordOf(52, 0)}
	cutOff := words{4: regOf(cut, 1, 3)}
	seeHeard(t, []heard{
		{"it comes in", two, op(enters, 0, 0), nil, codeDone, 5, 5, []int{didJoin}, 5},
		{"it comes in first of all", two, op(enters, 0, 0), words{5: 0, 8: 0}, codeDone, 1, 5, []int{didJoin}, 1},
		{"it comes in, and is in", zero, op(enters, 0, 0), nil, codeTaken, 0, 0, nil, 2},
		{"it comes in where somebody is", guestOf(0, 0), op(enters, 0, 0), nil, codeTaken, 0, 1, nil, 0},
		{"it comes in where somebody was cut off", guestOf(1, 0), op(enters, 0, 0), cutOff, codeTaken, 0, 1, nil, 0},
		{"no more epochs", two, op(enters, 0, 0), words{5: regOf(out, 4095, 3)}, codeWorn, 0, 1, nil, 0},
		{"the last epoch", two, op(enters, 0, 0), words{5: regOf(out, 4094, 3)}, codeDone, 4095, 5, []int{didJoin}, 4095},
		{"it takes", zero, op(takes, 2, 0), nil, codeDone, 2, 56 + 4*3, turned, 2},
		{"it takes a page", one, op(takes, 7, 0), nil, codeDone, 8, 56 + 4*2, turned, 1},
		{"it takes too much", zero, op(takes, 33, 0), nil, codeSize, 0, 56, turned, 2},
		{"it takes what there is not", zero, op(takes, 16, 0), nil, codeFull, 0, 56, turned, 2},
		{"it gives back", zero, op(gives, 0, 0), nil, codeDone, 0, 56 + 4*5, turned, 2},
		{"it gives back nothing", zero, op(gives, 4, 0), nil, codeWhere, 0, 56, turned, 2},
		{"it gives back another's", one, op(gives, 0, 0), nil, codeWhose, 0, 56, turned, 1},
		{"it hands on", zero, op(hands, 0, 1), nil, codeDone, 0, 56 + 4*1, turned, 2},
		{"it hands on to itself", zero, op(hands, 0, 0), nil, codeDone, 0, 56, turned, 2},
		{"it hands on to nobody", zero, op(hands, 0, 2), nil, codeWhom, 0, 53, nil, 2},
		{"it leaves", one, op(leaves, 0, 0), nil, codeDone, 0, 56 + 4*1, turned, 0},
		{"it leaves, and has a room", zero, op(leaves, 0, 0), nil, codeKeeps, 0, 56, turned, 2},
		{"it reaps itself", zero, op(reaps, 0, 0), nil, codeLives, 0, 53, nil, 2},
		{"it reaps somebody who lives", zero, op(reaps, 1, 0), nil, codeLives, 0, 53, nil, 2},
		{"it reaps nobody", zero, op(reaps, 2, 0), nil, codeNobody, 0, 53, nil, 2},
		{"it reaps no slot", zero, op(reaps, 3, 0), nil, codeNobody, 0, 53, nil, 2},
		{"it reaps whose lease is over", zero, op(reaps, 1, 0), late, codeDone, 0, 57 + 4*1, []int{didCut, didTurn}, 2},
		{"it reaps whose lease is over, with a room", one, op(reaps, 0, 0), words{1: wordOf(53, 0)}, codeMore, 0, 57 + 4*5, []int{didCut, didTurn}, 1},
		{"it reaps who was cut off", zero, op(reaps, 1, 0), cutOff, codeDone, 0, 56 + 4*1, turned, 2},
		{"no call", zero, op(7, 0, 0), nil, codeNone, 0, 0, nil, 2},
		{"it is not in", two, op(takes, 1, 0), nil, codeNobody, 0, 0, nil, 0},
		{"one behind it is in", guestOf(0, 1), op(takes, 1, 0), nil, codeFenced, 0, 1, nil, 1},
		{"it was cut off", one, op(takes, 1, 0), cutOff, codeFenced, 0, 53, nil, 1},
		{"it was reaped", one, op(takes, 1, 0), words{4: regOf(out, 1, 3)}, codeFenced, 0, 53, nil, 1},
		{"one behind it writes on its desk", zero, op(takes, 1, 0), words{47: wordOf(0, 21)}, codeFenced, 0, 53, nil, 2},
		{"the door is worn", zero, op(takes, 1, 0), words{2: doorOf(doorFree, 0, 0, 1000000)}, codeWorn, 0, 4, nil, 2},
		{"the last door", zero, op(takes, 8, 0), words{2: doorOf(doorFree, 0, 0, 999999)}, codeDone, 8, 56 + 4*2, turned, 2},
		{"what is no book", zero, op(takes, 1, 0), words{9: wordOf(77, 3)}, codeFenced, 0, 53, nil, 2},
	})
}

// When a call ends the door is free with the next number; a call that comes in
// leaves it.
func TestTheDoorBehindCalls(t *testing.T) {
	for kind, want := range map[int]int{enters: 20, takes: 21, gives: 21, hands: 21, leaves: 21, reaps: 21} {
		g := guestOf(0, 2)
		if kind == enters {
			g = guestOf(2, 0)
		}
		x := called(t, scene(), g, impl.BookOp{Kind: kind, A: 2, B: 1})
		if x.w[2] != doorOf(doorFree, 0, 0, want) {
			t.Errorf("kind %d: the door is %x", kind, x.w[2])
		}
	}
}

// fresh is the words of a book, the beats of all who are in being of just now,
// but for one slot; the door has a number above all stamps.
func fresh(c impl.PlatCfg, b impl.Book, late int) []uint64 {
	w := standing(c, b, stampThree)
	for slot := range c.Slots {
		w[beatAt(c, slot)] = wordOf(77, b.Epoch[slot])
		if slot == late {
			w[beatAt(c, slot)] = wordOf(77-c.Lease-1, b.Epoch[slot])
		}
	}
	return w
}

// seeAlone asks that a guest alone is told what the book says, and leaves words
// that stand for the book behind its call; and what the call was told.
func seeAlone(t *testing.T, b impl.Book, w []uint64, cutAhead bool, op impl.BookOp) int {
	t.Helper()
	if cutAhead {
		b = modelCut(b, op.A)
	}
	want, code, val := modelDo(b, op)
	x := called(t, w, guestOf(op.Slot, b.Epoch[op.Slot]), op)
	if x.g.Code != code || x.g.Val != val {
		t.Fatalf("%v of %v: told %d, %d, not %d, %d", op, b, x.g.Code, x.g.Val, code, val)
	}
	if got, ok := censBook(t, x.w); !ok || !alike(got, want) {
		t.Fatalf("%v of %v: %v, %v, not %v", op, b, ok, got, want)
	}
	return code
}

// A guest alone, in books of all houses: it is told what the book says, and the
// words behind its call stand for the book behind it.
func TestOneAloneIsToldWhatTheBookSays(t *testing.T) {
	d := dice(66)
	codes := map[int]int{}
	for i, b := range booksAsked(200, 40) {
		c := houseOf(b, 1+i%mostLease)
		for range 6 {
			op := d.anyOp(b)
			if !between(op.Slot, 0, b.Slots-1) || b.In[op.Slot] != live || !between(op.Kind, takes, reaps) {
				continue
			}
			codes[seeAlone(t, b, fresh(c, b, -1), false, op)]++
		}
		for whom := range b.Slots {
			by := d.below(b.Slots)
			if b.In[by] != live {
				continue
			}
			op := impl.BookOp{Kind: reaps, Slot: by, A: whom}
			codes[seeAlone(t, b, fresh(c, b, -1), false, op)]++
			codes[seeAlone(t, b, fresh(c, b, whom), by != whom, op)]++
		}
	}
	for _, code := range []int{codeDone, codeSize, codeFull, codeWhere, codeWhose, codeWhom, codeKeeps, codeLives, codeNobody, codeMore} {
		if codes[code] == 0 {
			t.Errorf("nobody was told %d", code)
		}
	}
}

// stopped is a guest of slot 1 that has made so many steps of a call in the
// scene with a room of its own, and whether the call has happened by then.
func stopped(t *testing.T, s heard, steps int) (*told, bool) {
	t.Helper()
	x := calling(t, s.has.in(words{15: wordOf(2, 3)}.in(scene())), guestOf(1, 1), s.op)
	for range steps {
		x.step(t)
	}
	return x, slices.Contains(x.dids, didTurn)
}

// stoppedCalls are the calls with which guests are stopped, and what they are
// told if they happen: alone at the door, and where slot 2, being in with its
// lease over, holds the door, or has done something, or is to be reaped.
func stoppedCalls() []heard {
	dead := words{5: regOf(live, 4, 3)}
	holds := words{5: regOf(live, 4, 3), 2: doorOf(doorHeld, 2, 4, 20)}
	done := words{5: regOf(live, 4, 3), 2: doorOf(doorDone, 2, 4, 20)}
	for at, word := range []uint64{wordOf(3, 20), changeOf(10, 5, 20), changeOf(17, 3, 20), changeOf(33, 0, 20)} {
		done[89+at] = word
	}
	return []heard{
		{op: impl.BookOp{Kind: hands, A: 0, B: 2}, code: codeWhom},
		{op: impl.BookOp{Kind: takes, A: 2}, code: codeDone, val: 2, has: holds},
		{op: impl.BookOp{Kind: takes, A: 2}, code: codeDone, val: 4, has: done},
		{op: impl.BookOp{Kind: reaps, A: 2}, code: codeDone, has: dead},
		{op: impl.BookOp{Kind: takes, A: 2}, code: codeDone, val: 2},
		{op: impl.BookOp{Kind: takes, A: 16}, code: codeFull},
		{op: impl.BookOp{Kind: gives, A: 0}, code: codeDone},
		{op: impl.BookOp{Kind: hands, A: 0, B: 0}, code: codeDone},
		{op: impl.BookOp{Kind: leaves}, code: codeKeeps},
	}
}

// reaped is the words behind a guest of slot 0 that has reaped slot 1, with all
// its rooms; first the leases end.
func reaped(t *testing.T, w []uint64) []uint64 {
	t.Helper()
	w = words{1: wordOf(60, 0)}.in(w)
	g := guestOf(0, 2)
	for n := 0; ; n++ {
		x := called(t, w, g, impl.BookOp{Kind: reaps, A: 1})
		w, g = x.w, x.g
		if g.Code == codeDone {
			return w
		}
		if g.Code != codeMore || n > 5 {
			t.Fatalf("it is not reaped: %+v", g)
		}
	}
}

// A guest that stops at each of its steps, is reaped, and goes on: it is told
// that it is fenced, if its call had not happened, and else what the book said;
// and what it does then turns nothing of the book.
func TestReapedAndGoesOn(t *testing.T) {
	t.Parallel()
	places := map[int]int{}
	for _, s := range stoppedCalls() {
		for steps := 0; ; steps++ {
			x, happened := stopped(t, s, steps)
			if !x.g.Busy {
				break
			}
			places[x.g.Pc]++
			x.w = reaped(t, x.w)
			seeGoesOn(t, x, happened, s)
			if x.w[4] != regOf(out, 1, stampOf(x.w[4])) {
				t.Fatalf("it has turned its word in the register: %x", x.w[4])
			}
		}
	}
	for pc := pcBeat; pc <= pcYield; pc++ {
		if places[pc] == 0 && !between(pc, pcReg, pcJoin) {
			t.Errorf("no guest was reaped at %d", pc)
		}
	}
}

// seeGoesOn lets a guest go on that was stopped, and asks what it is told, and
// that the true book is as it was, but for slot 2, if it cuts that off.
func seeGoesOn(t *testing.T, x *told, happened bool, s heard) {
	t.Helper()
	pc := x.g.Pc
	before, stands := censTrue(t, x.w)
	code, val := codeFenced, 0
	if happened {
		code, val = s.code, s.val
	}
	x.dids = nil
	x.end(t)
	// Who yields goes by what it had seen, and its call has not happened.
	if s.code == codeWhom && x.g.Code == codeWhom && pc >= pcSee {
		code = codeWhom
	}
	if slices.Contains(x.dids, didCut) {
		before = modelCut(before, 2)
	}
	if x.g.Code != code || x.g.Val != val || slices.Contains(x.dids, didTurn) {
		t.Fatalf("%v, stopped at %d: told %d, %d, not %d, %d, did %v", s.op, pc, x.g.Code, x.g.Val, code, val, x.dids)
	}
	if behind, ok := censTrue(t, x.w); !ok || !stands || !alike(behind, before) {
		t.Fatalf("%v, stopped at %d: the book was %v, is %v", s.op, pc, before, behind)
	}
}

// The same, with somebody who has come in behind it at its slot, and has taken a
// room: nothing of that one turns, not its beat either.
func TestGoesOnBehindAnother(t *testing.T) {
	t.Parallel()
	for _, s := range stoppedCalls() {
		for steps := 0; ; steps++ {
			x, happened := stopped(t, s, steps)
			if !x.g.Busy {
				break
			}
			next := called(t, reaped(t, x.w), guestOf(1, 0), impl.BookOp{Kind: enters})
			if next.g.Code != codeDone || next.g.Epoch != 2 {
				t.Fatalf("nobody came in behind it: %+v", next.g)
			}
			next = called(t, next.w, next.g, impl.BookOp{Kind: takes, A: 1})
			if next.g.Code != codeDone {
				t.Fatalf("the one behind it has no room: %+v", next.g)
			}
			x.w = slices.Clone(next.w)
			seeGoesOn(t, x, happened, s)
			if x.w[4] != next.w[4] || x.w[7] != next.w[7] {
				t.Fatalf("%v, %d steps: the register or the beat of the one behind it has turned", s.op, steps)
			}
			again := called(t, x.w, next.g, impl.BookOp{Kind: takes, A: 1})
			if again.g.Code != codeDone {
				t.Fatalf("the one behind it goes on: %+v", again.g)
			}
		}
	}
}

// A guest that is cut off at each of its steps, but not reaped: by somebody who
// wants the door, if it holds it, or else by the register's word alone.
func TestCutOffAndGoesOn(t *testing.T) {
	t.Parallel()
	for _, s := range stoppedCalls() {
		for steps := 0; ; steps++ {
			x, happened := stopped(t, s, steps)
			if !x.g.Busy {
				break
			}
			held := x.w[2] == doorOf(doorHeld, 1, 1, stampOf(x.w[2]))
			x.w = words{1: wordOf(60, 0)}.in(x.w)
			if held {
				other := called(t, x.w, guestOf(0, 2), impl.BookOp{Kind: takes, A: 1})
				if other.g.Code != codeDone || !slices.Equal(other.dids, []int{didCut, didBreak, didTurn}) {
					t.Fatalf("%v, %d steps: %+v, did %v", s.op, steps, other.g, other.dids)
				}
				x.w = other.w
			} else {
				x.w[4] = regOf(cut, 1, stampOf(x.w[4]))
			}
			seeGoesOn(t, x, happened, s)
			if x.w[4] != regOf(cut, 1, stampOf(x.w[4])) {
				t.Fatalf("it is not cut off any more: %x", x.w[4])
			}
		}
	}
}

// A guest that has turned the door, and stops at each step from there on: another
// one carries out for it what it has done, opens the door, and calls; the first
// is told what the book said, and there is nothing left for it to turn.
func TestHelpedToItsEnd(t *testing.T) {
	seen := 0
	for _, s := range stoppedCalls() {
		for steps := 0; ; steps++ {
			x, happened := stopped(t, s, steps)
			if !x.g.Busy {
				break
			}
			if !happened {
				continue
			}
			seen++
			b, _ := censTrue(t, x.w)
			want, code, val := modelDo(b, impl.BookOp{Kind: takes, Slot: 0, A: 1})
			other := called(t, x.w, guestOf(0, 2), impl.BookOp{Kind: takes, A: 1})
			if other.g.Code != code || other.g.Val != val || !slices.Equal(other.dids, []int{didTurn}) {
				t.Fatalf("%v, %d steps: the helper: %+v, did %v", s.op, steps, other.g, other.dids)
			}
			x.w = slices.Clone(other.w)
			seeGoesOn(t, x, true, s)
			if !slices.Equal(x.w, other.w) {
				t.Fatalf("%v, %d steps: words turned at %v", s.op, steps, turnedAt(x.w, other.w))
			}
			if got, ok := censBook(t, x.w); !ok || !alike(got, want) {
				t.Fatalf("%v, %d steps: %v, not %v", s.op, steps, got, want)
			}
		}
	}
	if seen < 20 {
		t.Error("only so many were helped:", seen)
	}
}

// Who holds the door is waited for as long as its lease is not over, and then
// cut off, and the door broken: at the last tick nothing, one tick later all.
func TestTheDoorIsWaitedFor(t *testing.T) {
	x := calling(t, scene(), guestOf(1, 1), impl.BookOp{Kind: takes, A: 1})
	for x.g.Pc != pcTurn {
		x.step(t)
	}
	if x.w[7] != wordOf(50, 1) {
		t.Fatalf("its beat: %x", x.w[7])
	}
	other := calling(t, words{1: wordOf(54, 0)}.in(x.w), guestOf(0, 2), impl.BookOp{Kind: takes, A: 1})
	for range 203 {
		other.step(t)
	}
	if other.g.Pc != pcHear && !between(other.g.Pc, pcDoor, pcTime) || other.dids != nil || other.w[2] != x.w[2] {
		t.Fatalf("it has not waited: %+v, did %v", other.g, other.dids)
	}
	other.w = words{1: wordOf(55, 0)}.in(other.w)
	other.end(t)
	if other.g.Code != codeDone || !slices.Equal(other.dids, []int{didCut, didBreak, didTurn}) || other.w[2] != doorOf(doorFree, 0, 0, 22) {
		t.Fatalf("the door is not broken: %+v, did %v, %x", other.g, other.dids, other.w[2])
	}
	x.w, x.dids = other.w, nil
	x.end(t)
	if x.g.Code != codeFenced || x.dids != nil {
		t.Fatalf("it is not fenced: %+v", x.g)
	}
}

// A guest that holds the door and leaves it to another one is not waited for: it
// is not in any more, or with another epoch.
func TestAHeldDoorOfNobody(t *testing.T) {
	for why, reg := range map[string]uint64{
		"it was cut off":      regOf(cut, 1, 3),
		"it is out":           regOf(out, 1, 3),
		"one behind it is in": regOf(live, 2, 3),
	} {
		w := words{2: doorOf(doorHeld, 1, 1, 20), 4: reg}.in(scene())
		x := called(t, w, guestOf(0, 2), impl.BookOp{Kind: takes, A: 8})
		if x.g.Code != codeDone || !slices.Equal(x.dids, []int{didBreak, didTurn}) {
			t.Errorf("%s: %+v, did %v", why, x.g, x.dids)
		}
	}
}

// Helping with a desk of another number, or with too many changes, comes to
// nothing: the helper looks at the door once more, until that has gone on.
func TestDesksThatAreOfNoHelp(t *testing.T) {
	for why, has := range map[string]words{
		"an older desk":     {68: wordOf(1, 19), 69: changeOf(17, 2, 19)},
		"a later desk":      {68: wordOf(1, 21), 69: changeOf(17, 2, 21)},
		"too many changes":  {68: wordOf(21, 20), 69: changeOf(17, 2, 20)},
		"an older change":   {68: wordOf(1, 20), 69: changeOf(17, 2, 19)},
		"a change of later": {68: wordOf(1, 20), 69: changeOf(17, 2, 21)},
	} {
		has[2] = doorOf(doorDone, 1, 1, 20)
		x := calling(t, has.in(scene()), guestOf(0, 2), impl.BookOp{Kind: takes, A: 8})
		for range 60 {
			x.step(t)
		}
		if !x.g.Busy || x.w[17] != wordOf(0, 3) || x.w[2] != has[2] {
			t.Errorf("%s: %+v", why, x.g)
		}
		x.w[2] = doorOf(doorFree, 0, 0, 22)
		x.end(t)
		if x.g.Code != codeDone {
			t.Errorf("%s, when the door has gone on: %+v", why, x.g)
		}
	}
}

// Helping with changes that were carried out already, all or some: each is
// carried out once, and what has a greater number stays.
func TestChangesThatWereCarriedOut(t *testing.T) {
	done := words{2: doorOf(doorDone, 1, 1, 20), 68: wordOf(3, 20), 69: changeOf(10, 5, 20), 70: changeOf(17, 2, 20), 71: changeOf(33, 0, 20)}
	for some := range 8 {
		has := words{}
		for at, word := range done {
			has[at] = word
		}
		for i, word := range []words{{10: wordOf(5, 20)}, {17: wordOf(2, 20)}, {33: wordOf(0, 20)}} {
			if some>>i&1 == 1 {
				for at := range word {
					has[at] = word[at]
				}
			}
		}
		x := calling(t, has.in(scene()), guestOf(0, 2), impl.BookOp{Kind: leaves})
		for x.g.Pc != pcOpen {
			x.step(t)
		}
		carriedOut := 3 - (some&1 + some>>1&1 + some>>2&1)
		// Four ahead of the desk, its first word, two for each change, and one
		// more for each that is carried out here.
		if x.steps != 5+2*3+carriedOut {
			t.Errorf("%d were carried out here, in %d steps", carriedOut, x.steps)
		}
		x.step(t)
		if x.w[10] != wordOf(5, 20) || x.w[17] != wordOf(2, 20) || x.w[33] != wordOf(0, 20) || x.w[2] != doorOf(doorFree, 0, 0, 21) {
			t.Errorf("%x", x.w[:47])
		}
		x.end(t)
		if x.g.Code != codeKeeps {
			t.Errorf("%+v", x.g)
		}
	}
}

// Two who come in at one slot: the second stops the first at each of its steps,
// comes in, and perhaps leaves again; the first is told that somebody is in, or
// comes in behind it.
func TestTwoComeIn(t *testing.T) {
	for steps := range 5 {
		for _, leavesAgain := range []bool{false, true} {
			x := calling(t, scene(), guestOf(2, 0), impl.BookOp{Kind: enters})
			for range steps {
				x.step(t)
			}
			y := called(t, x.w, guestOf(2, 0), impl.BookOp{Kind: enters})
			if y.g.Code != codeDone || y.g.Val != 5 {
				t.Fatalf("%d steps: the second: %+v", steps, y.g)
			}
			want, val, epoch := codeTaken, 0, 0
			if leavesAgain {
				y = called(t, y.w, y.g, impl.BookOp{Kind: leaves})
				want, val, epoch = codeDone, 6, 6
			}
			x.w = y.w
			x.end(t)
			if x.g.Code != want || x.g.Val != val || x.g.Epoch != epoch || y.g.Epoch != map[bool]int{false: 5}[leavesAgain] {
				t.Errorf("%d steps, %v: %+v", steps, leavesAgain, x.g)
			}
		}
	}
}
