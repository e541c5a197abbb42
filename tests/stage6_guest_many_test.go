package tests

import (
	"slices"
	"testing"

	"loop.example/hostel/impl"
)

// crowd is guests in one house, and the plain book of what has happened there.
type crowd struct {
	c      impl.PlatCfg
	w      []uint64
	b      impl.Book
	guests []impl.Guest
	// How often the call of each guest has happened since it was asked.
	happened []int
	met      map[int]int
}

func newCrowd(c impl.PlatCfg) *crowd {
	return &crowd{c: c, w: impl.PlatFormat(c), b: modelOpen(c.Slots, c.Pages), met: map[int]int{}}
}

func (x *crowd) born(slot int) {
	x.guests = append(x.guests, impl.GuestNew(slot))
	x.happened = append(x.happened, 0)
}

func (x *crowd) ask(t *testing.T, i int, op impl.BookOp) {
	t.Helper()
	if g := x.guests[i]; g.Up && !g.Busy {
		x.guests[i] = guestAsk(t, g, op)
		x.happened[i] = 0
	}
}

// step is a step of one guest, and what it must be: as the model says, P14 to
// P16, and in step with the plain book.
func (x *crowd) step(t *testing.T, i int) {
	t.Helper()
	g := x.guests[i]
	w, to, did := seeStep(t, x.w, g)
	at := seeKept(t, x.c, x.w, w, g, to)
	if at >= 0 {
		if !g.Up || !g.Busy {
			t.Fatalf("who is dead or idle has turned %d", at)
		}
		seeItsOwn(t, x.c, g, at, x.w[at], w[at], did)
		x.seeDoneChange(t, g, at, w[at])
	}
	x.enter(t, i, g, to, did)
	x.w, x.guests[i] = w, to
	x.met[g.Pc]++
	if got, ok := impl.CensTrue(w); at >= 0 && (!ok || !alike(got, x.b)) {
		t.Fatalf("at %d, did %d: the words stand for %v, %v, and the book is %v", g.Pc, did, ok, got, x.b)
	}
	if g.Busy && !to.Busy {
		x.seeTold(t, i)
	}
}

// seeDoneChange asks for the end of P16: a word of the rooms, of a front, or of
// another's is turned only as a change that was done.
func (x *crowd) seeDoneChange(t *testing.T, g impl.Guest, at int, now uint64) {
	t.Helper()
	if g.Pc != pcCarry {
		if between(at, headAt(x.c, 0), deskAt(x.c, 0)-1) {
			t.Fatalf("at %d: the room's word %d is turned", g.Pc, at)
		}
		return
	}
	changes, done := modelChanges(x.w, x.c)
	if !done || !slices.Contains(changes, changeOf(at, valOf(now), stampOf(now))) {
		t.Fatalf("word %d is %x, and that was not done: %x", at, now, changes)
	}
}

// enter enters what has happened into the plain book, and asks that the book says
// the same of it as the guest.
func (x *crowd) enter(t *testing.T, i int, g impl.Guest, to impl.Guest, did int) {
	t.Helper()
	switch did {
	case didTurn, didJoin:
		b, code, val := modelDo(x.b, g.Op)
		said, number := g.Code, g.Val
		if did == didJoin {
			said, number = codeDone, g.Next
		}
		if code != said || val != number {
			t.Fatalf("%v has happened with %d, %d, and the book says %d, %d: %v", g.Op, said, number, code, val, x.b)
		}
		x.b = b
		x.happened[i]++
	case didCut:
		if x.b.In[to.Who] != live {
			t.Fatalf("slot %d is cut off, and is %d", to.Who, x.b.In[to.Who])
		}
		x.b = modelCut(x.b, to.Who)
	}
	x.met[100+did]++
}

// seeTold asks of a guest with an answer: with BookDone and BookMore its call has
// happened, once; with what is said without the book it has not.
func (x *crowd) seeTold(t *testing.T, i int) {
	t.Helper()
	g := x.guests[i]
	want := 1
	switch g.Code {
	case codeFenced, codeWorn, codeWhom, codeNobody, codeLives, codeNone:
		want = 0
	case codeTaken:
		want = x.happened[i] // by the register, or by the book
	}
	if x.happened[i] != want {
		t.Fatalf("%v was told %d, and has happened %d times", g.Op, g.Code, x.happened[i])
	}
	x.met[200+g.Code]++
}

// happens is one thing that happens in a crowd, thrown.
func (x *crowd) happens(t *testing.T, d *dice) {
	t.Helper()
	if len(x.guests) < 6 && d.below(40) == 0 || len(x.guests) == 0 {
		x.born(d.below(x.c.Slots))
		return
	}
	i := d.below(len(x.guests))
	g := x.guests[i]
	switch roll := d.below(3000); {
	case roll < 3:
		x.guests[i].Up = false
	case roll < 20:
		x.w = words{clockAt: wordOf(valOf(x.w[clockAt])+1+d.below(2*x.c.Lease), 0)}.in(x.w)
	case !g.Up && d.below(4) == 0:
		x.guests[i], x.happened[i] = impl.GuestNew(d.below(x.c.Slots)), 0
	case !g.Busy && g.Epoch == 0:
		x.ask(t, i, impl.BookOp{Kind: enters})
	case !g.Busy && d.below(3) == 0:
		x.ask(t, i, impl.BookOp{Kind: leaves + d.below(2), A: d.below(x.c.Slots)})
	case !g.Busy:
		op := d.anyOp(x.b)
		if rooms := modelOf(x.b, g.Slot); len(rooms) > 0 && between(op.Kind, gives, hands) {
			op.A = rooms[d.below(len(rooms))]
		}
		x.ask(t, i, op)
		if g.Code == codeFenced { // who is fenced comes again, as somebody else
			x.guests[i], x.happened[i] = impl.GuestNew(g.Slot), 0
		}
	default:
		for range 1 + d.below(1+d.below(60)) {
			x.step(t, i)
		}
	}
}

// P14 to P16 where guests go on at single words in any order, die, and come
// again, and the clock ticks: what has happened is what the plain book says, one
// call behind the other, at each step.
func TestCrowds(t *testing.T) {
	t.Parallel()
	met := map[int]int{}
	for n := range 24 {
		d := dice(1000 + n)
		x := newCrowd(impl.PlatCfg{Slots: 1 + n%mostSlots, Pages: 1 + n/mostSlots%3, Lease: 1 + d.below(6)})
		for range 900 {
			x.happens(t, &d)
		}
		for what, many := range x.met {
			met[what] += many
		}
	}
	for pc := pcBeat; pc <= pcYield; pc++ {
		if met[pc] == 0 {
			t.Errorf("no guest of a crowd was at %d", pc)
		}
	}
	for did := didTurn; did <= didJoin; did++ {
		if met[100+did] == 0 {
			t.Errorf("nobody of a crowd did %d", did)
		}
	}
	for _, code := range []int{codeDone, codeFull, codeWhere, codeWhose, codeWhom, codeTaken, codeKeeps, codeLives, codeNobody, codeMore, codeFenced} {
		if met[200+code] == 0 {
			t.Errorf("nobody of a crowd was told %d", code)
		}
	}
}

// Two guests, one of which stops at one of its steps after the other, while the
// other one makes a whole call, if the door lets it: all calls beside all others.
func TestEachStepBetweenTwoCalls(t *testing.T) {
	t.Parallel()
	calls := []impl.BookOp{
		{Kind: takes, A: 1}, {Kind: takes, A: 2}, {Kind: gives, A: 0}, {Kind: gives, A: 2},
		{Kind: hands, A: 0, B: 1}, {Kind: hands, A: 2, B: 0}, {Kind: leaves}, {Kind: reaps, A: 0}, {Kind: reaps, A: 1},
	}
	start := newCrowd(impl.PlatCfg{Slots: 2, Pages: 1, Lease: 4})
	for slot := range 2 {
		start.born(slot)
		start.call(t, slot, impl.BookOp{Kind: enters})
		start.call(t, slot, impl.BookOp{Kind: takes, A: 2})
	}
	for _, first := range calls {
		x := start.copied()
		x.ask(t, 0, first)
		for n := 0; x.guests[0].Busy; n++ {
			// The words that are only seen are many; every fifth of them will do.
			if x.guests[0].Pc != pcSee || n%5 == 0 {
				for i, second := range calls {
					betweenCalls(t, x.copied(), second, (n+i)%2*20)
				}
			}
			x.step(t, 0)
		}
	}
}

func (x *crowd) copied() *crowd {
	y := *x
	y.guests, y.happened = slices.Clone(x.guests), slices.Clone(x.happened)
	return &y
}

// call lets a guest make a call, as long as it takes alone.
func (x *crowd) call(t *testing.T, i int, op impl.BookOp) {
	t.Helper()
	x.ask(t, i, op)
	for n := 0; x.guests[i].Busy && n < 120; n++ {
		x.step(t, i)
	}
}

// betweenCalls lets the clock tick, guest 1 make a call, and then both come to
// their ends.
func betweenCalls(t *testing.T, x *crowd, second impl.BookOp, ticks int) {
	t.Helper()
	x.w = words{clockAt: wordOf(ticks, 0)}.in(x.w)
	x.call(t, 1, second)
	for n := 0; x.guests[0].Busy || x.guests[1].Busy; n++ {
		x.step(t, n%2)
		if n > 2000 {
			t.Fatalf("%v and %v: no end", x.guests[0], x.guests[1])
		}
	}
}
