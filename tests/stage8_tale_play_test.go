package tests

import (
	"math"
	"slices"
	"testing"

	"loop.example/hostel/impl"
)

// The guest 1 of these tests is asked for what caller and comer of the guests'
// tests are asked for.
var (
	takesTwo = impl.BookOp{Kind: takes, Slot: 0, A: 2}
	comesIn  = impl.BookOp{Kind: enters, Slot: 2, A: 8, B: 9}
)

// Steps with each of what a step may have done, in figures: what is told of the
// guest is what it had ahead of the step, but for whom it has cut off.
func TestWhatStepsTell(t *testing.T) {
	tells := map[string][]impl.TaleItem{
		"turned":           {itemOf(1, takesTwo, 7, 3)},
		"joined, answered": {itemOf(1, comesIn, codeDone, 5)},
		"cut off":          {cutBy(1, 1)},
		"fenced":           {cutBy(1, 1)},
	}
	met := 0
	for _, s := range doings() {
		w := impl.World{Words: s.has.in(scene()), Guests: []impl.Guest{guestAt(pcSee), s.g, guestAt(pcCarry)}}
		want := tells[s.why]
		met += len(want)
		seeTells(t, s.why, w, []impl.WorldEvent{stepsOf(1, 1)}, want...)
		seeTells(t, s.why+", among nothing", w, []impl.WorldEvent{{}, ticksOf(1), stepsOf(1, 1), stepsOf(3, 1)}, want...)
		for _, n := range []int{0, -1, math.MinInt} {
			seeTells(t, s.why+", no step", w, []impl.WorldEvent{stepsOf(1, n)})
		}
	}
	if met != 4 {
		t.Errorf("%d steps told something", met)
	}
}

// turner is a guest of slot 0 that has the door in its hand and is about to turn
// it.
func turner(how change) impl.World {
	w := sceneWorld(guestOf(1, 1), with(caller(pcTurn, func(g *impl.Guest) { g.Seq = 20 }), how))
	w.Words = words{2: doorOf(doorHeld, 0, 2, 20)}.in(w.Words)
	return w
}

// A turn tells what the guest had, whatever that is: it is no matter what a book
// would say.
func TestTurnsTellWhatTheGuestHas(t *testing.T) {
	once := []impl.WorldEvent{stepsOf(1, 1)}
	for _, code := range []int{math.MinInt, -1, 0, 1, 2, 7, 10, 13, 14, math.MaxInt} {
		for _, val := range []int{math.MinInt, -1, 0, 1, 47, math.MaxInt} {
			op := impl.BookOp{Kind: code, Slot: 0, A: val, B: -val}
			w := turner(func(g *impl.Guest) { g.Op, g.Code, g.Val, g.Next, g.Who = op, code, val, 9, 2 })
			seeTells(t, "turns", w, once, itemOf(1, op, code, val))
		}
	}
	// With changes, and with none; and it is told once, not again by its answer.
	for many := range 4 {
		w := turner(func(g *impl.Guest) {
			for n := range many {
				g.Plan = append(g.Plan, changeOf(15+n, n, 20))
			}
		})
		seeTells(t, "turns", w, once, itemOf(1, takesTwo, 7, 3))
		seeTells(t, "to its answer", w, []impl.WorldEvent{stepsOf(1, 400), stepsOf(1, 400)}, itemOf(1, takesTwo, 7, 3))
	}
}

// Who comes in tells its Next, and BookDone, whatever it was told ahead.
func TestJoinsTellTheirNext(t *testing.T) {
	for _, next := range []int{0, 1, 4, 5, 4094, 4095} {
		g := comer(pcJoin, func(g *impl.Guest) { g.Entry, g.Next, g.Epoch = scene()[5], next, 2 })
		seeTells(t, "joins", sceneWorld(g), []impl.WorldEvent{stepsOf(0, 1)}, itemOf(0, comesIn, codeDone, next))
		leaver := with(g, func(g *impl.Guest) { g.Op.Kind = leaves })
		op := impl.BookOp{Kind: leaves, Slot: 2, A: 8, B: 9}
		seeTells(t, "joins to leave", sceneWorld(leaver), []impl.WorldEvent{stepsOf(0, 1)}, itemOf(0, op, codeDone, next))
	}
}

// Who cuts off is told with the slot alone: that of Who behind the step, which
// one who reaps has only by it.
func TestCutsTellWhom(t *testing.T) {
	once := []impl.WorldEvent{stepsOf(1, 1)}
	for _, who := range []int{0, 1, 2, 7} {
		g := caller(pcCut, func(g *impl.Guest) {
			g.Op, g.Seq, g.Who, g.WhoE = impl.BookOp{Kind: reaps, Slot: 0, A: 1, B: 5}, 20, who, 9
			g.Snap = slices.Clone(withoutDesks(deskHouse, scene()))
		})
		seeTells(t, "cuts to reap", sceneWorld(guestOf(1, 1), g), once, cutBy(1, 1))
		// The word in the register is another one by now: nobody is cut off.
		late := sceneWorld(guestOf(1, 1), with(g, func(g *impl.Guest) { g.Snap[4]++ }))
		seeTells(t, "cuts to reap, too late", late, once)
		// What was seen is no book: it yields, and has cut off all the same.
		torn := sceneWorld(guestOf(1, 1), with(g, func(g *impl.Guest) { g.Snap[15] = wordOf(9, 3) }))
		seeTells(t, "cuts to reap, in vain", torn, once, cutBy(1, 1))
	}
	for who := range 3 {
		fence := caller(pcFence, func(g *impl.Guest) { g.Who, g.WhoE, g.Was, g.Seq = who, 1, scene()[3+who], 20 })
		seeTells(t, "fences", sceneWorld(guestOf(1, 1), fence), once, cutBy(1, who))
		late := sceneWorld(guestOf(1, 1), with(fence, func(g *impl.Guest) { g.Was++ }))
		seeTells(t, "fences, too late", late, once)
	}
}

// Steps at each place of a guest of each number, and many of them at once, held
// against the model.
func TestTalesOfEachPlace(t *testing.T) {
	onOneProcessor(t)
	d := dice(81)
	later := 0
	for range 20 {
		for pc := pcIdle; pc <= pcYield; pc++ {
			c, w := d.anyHouse()
			i := d.below(mostGuests)
			var guests []impl.Guest
			for range mostGuests {
				guests = append(guests, impl.Guest{Slot: d.below(c.Slots)})
			}
			if pc > pcIdle {
				guests[i] = d.anyGuest(c, w, pc)
			}
			world := impl.World{Words: w, Guests: guests}
			list := seeTale(t, "one", world, []impl.WorldEvent{stepsOf(i, 1)})
			if len(list) > 1 || len(list) == 1 && list[0].Guest != i {
				t.Fatalf("one step of guest %d tells %v", i, list)
			}
			all := seeTale(t, "many", world, []impl.WorldEvent{stepsOf(i, 400)})
			later += len(all) - len(list)
			guests[i].Up = false
			seeTells(t, "dead", world, []impl.WorldEvent{stepsOf(i, 400)})
		}
	}
	if later < 15 {
		t.Errorf("%d things have happened behind the first steps", later)
	}
}

// Worlds that are not ok tell nothing, whatever happens in them.
func TestTalesOfNoWorld(t *testing.T) {
	events := []impl.WorldEvent{stepsOf(1, 1), bornAt(0), asksOf(0, takes, 1, 0), stepsOf(0, 400), stepsOf(1, 400)}
	if len(seeTale(t, "a world", turner(nil), events)) == 0 {
		t.Error("nothing has happened in a world that is ok")
	}
	c := deskHouse
	for why, how := range map[string]func(w *impl.World){
		"no words":           func(w *impl.World) { w.Words = nil },
		"a word too few":     func(w *impl.World) { w.Words = w.Words[:sizeOf(c)-1] },
		"a word too many":    func(w *impl.World) { w.Words = append(w.Words, 0) },
		"no desks":           func(w *impl.World) { w.Words = w.Words[:deskAt(c, 0)] },
		"another stamp":      func(w *impl.World) { w.Words[0] += 1 << 32 },
		"another house":      func(w *impl.World) { w.Words[0]++ },
		"seven guests":       func(w *impl.World) { w.Guests = append(w.Guests, somebody(5)...) },
		"a guest not ok":     func(w *impl.World) { w.Guests[0].Epoch = -1 },
		"a dead one not ok":  func(w *impl.World) { w.Guests[0] = impl.Guest{Slot: 3} },
		"the turner, not ok": func(w *impl.World) { w.Guests[1].Op.Slot = 1 },
		"nothing at all":     func(w *impl.World) { *w = impl.World{} },
	} {
		w := turner(nil)
		how(&w)
		if modelWorldOk(w) {
			t.Fatalf("%s: ok", why)
		}
		seeTells(t, why, w, events)
		seeTells(t, why, w, nil)
	}
	w := turner(nil)
	w.Guests = append(w.Guests, somebody(4)...)
	seeTells(t, "six guests", w, events[:1], itemOf(1, takesTwo, 7, 3))
}

// No events, a thousand, and one more: with what happens at the first of them,
// and at the last.
func TestTalesOfSoManyEvents(t *testing.T) {
	item := itemOf(1, takesTwo, 7, 3)
	for _, many := range []int{1, 2, 999, 1000, 1001, 1002, 5000} {
		var want []impl.TaleItem
		if many <= 1000 {
			want = append(want, item)
		}
		events := slices.Repeat([]impl.WorldEvent{ticksOf(0)}, many)
		events[0] = stepsOf(1, 1)
		seeTells(t, "the first", turner(nil), events, want...)
		events[0], events[many-1] = ticksOf(0), stepsOf(1, 1)
		seeTells(t, "the last", turner(nil), events, want...)
		seeTells(t, "of no kind", turner(nil), make([]impl.WorldEvent, many))
	}
	seeTells(t, "none", turner(nil), nil)
	seeTells(t, "none", turner(nil), []impl.WorldEvent{})
}

// Events that do nothing, and such that do, but not by a step, tell nothing.
func TestEventsThatTellNothing(t *testing.T) {
	w := turner(nil)
	w.Guests = append(w.Guests, guestOf(0, 0), impl.Guest{Slot: 1, Epoch: 1}, comer(pcReg, nil))
	for _, i := range []int{math.MinInt, -1, 5, 6, 400, math.MaxInt} {
		for kind := -1; kind <= 7; kind++ {
			seeTells(t, "no guest", w, []impl.WorldEvent{{Kind: kind, I: i, N: 1, Call: enters}})
		}
	}
	for _, i := range []int{0, 2, 3} {
		seeTells(t, "idle or dead", w, []impl.WorldEvent{stepsOf(i, 1), stepsOf(i, 400), diesOf(i), stepsOf(i, 400)})
	}
	for call := -1; call <= 8; call++ {
		// Who is in is asked to come in, and who is not to leave: they are answered
		// at once, and it is no call of the book.
		seeTells(t, "asked", w, []impl.WorldEvent{asksOf(0, call, 1, 0), asksOf(1, call, 1, 0), asksOf(2, call, 1, 0), asksOf(3, call, 1, 0)})
	}
	for _, n := range []int{-1, 0, 1, 1000, 1001} {
		seeTells(t, "ticks", w, []impl.WorldEvent{ticksOf(n), bornAt(n), {Kind: 6, I: 1, N: n}, {Kind: 0, I: 1, N: n}})
	}
	seeTells(t, "dies ahead of its turn", w, []impl.WorldEvent{diesOf(1), stepsOf(1, 400)})
}

// Steps by which nothing has happened: the door was not turned, somebody else
// has come in at the slot, a door was broken, and one was yielded.
func TestStepsThatTellNothing(t *testing.T) {
	once := []impl.WorldEvent{stepsOf(1, 1)}
	for why, door := range map[string]uint64{
		"free":          doorOf(doorFree, 0, 0, 21),
		"another's":     doorOf(doorHeld, 1, 1, 20),
		"a later one":   doorOf(doorHeld, 0, 2, 21),
		"another epoch": doorOf(doorHeld, 0, 3, 20),
		"done already":  doorOf(doorDone, 0, 2, 20),
	} {
		w := turner(nil)
		w.Words[2] = door
		seeTells(t, why, w, once)
		seeTells(t, why, w, []impl.WorldEvent{stepsOf(1, 400)})
	}
	joins := comer(pcJoin, func(g *impl.Guest) { g.Entry, g.Next = scene()[5], 5 })
	w := sceneWorld(guestOf(0, 2), joins)
	w.Words[5] = regOf(live, 5, 3)
	seeTells(t, "somebody is in", w, []impl.WorldEvent{stepsOf(1, 400)})
	watching := func(g *impl.Guest) { g.Seq, g.Who, g.WhoE = 20, 1, 1 }
	w = sceneWorld(guestOf(1, 1), caller(pcBreak, watching))
	w.Words[2] = doorOf(doorHeld, 1, 1, 20)
	seeTells(t, "breaks", w, once)
	seeTells(t, "breaks in vain", sceneWorld(guestOf(1, 1), caller(pcBreak, watching)), once)
	for code := range 14 {
		w := turner(func(g *impl.Guest) { g.Pc, g.Code = pcYield, code })
		seeTells(t, "yields", w, []impl.WorldEvent{stepsOf(1, 400)})
	}
	seeTells(t, "waits", waiting(), []impl.WorldEvent{stepsOf(1, 400), stepsOf(1, 400)})
}

// At each word of a call the guest dies: the call has happened if the door was
// turned, whether it was answered or not; and the book says so.
func TestDeathsBehindTheTurn(t *testing.T) {
	for _, op := range []impl.BookOp{{Kind: takes, A: 2}, {Kind: takes, A: 8}, {Kind: gives, A: 0}, {Kind: hands, A: 0, B: 1}, {Kind: gives, A: 1}, {Kind: leaves}} {
		before := bookAsItStands(t, scene())
		behind, code, val := modelDo(before, op)
		w, n := alone(t, op)
		turned, unanswered := 0, 0
		for at := range n + 1 {
			events := []impl.WorldEvent{stepsOf(0, at), diesOf(0), stepsOf(0, 400)}
			list := seeTale(t, "dies", w, events)
			x := impl.WorldPlay(w, events)
			book, said := seeTaleBook(t, "dies", before, list)
			if b, ok := worldBook(t, x); !ok || !said || !alike(b, book) {
				t.Fatalf("%v, dead at %d: %v, %+v, and by the tale %v, %+v", op, at, ok, b, said, book)
			}
			if len(list) == 0 {
				continue
			}
			turned++
			if x.Guests[0].Busy {
				unanswered++
			}
			if !slices.Equal(list, []impl.TaleItem{itemOf(0, op, code, val)}) || !alike(book, behind) {
				t.Fatalf("%v, dead at %d: %v, %+v", op, at, list, book)
			}
		}
		if turned == n+1 || unanswered == 0 || turned != unanswered+1 {
			t.Errorf("%v: %d steps, %d behind the turn, %d of them ahead of the answer", op, n, turned, unanswered)
		}
	}
}

// Several things by one event of many steps: guest 1 waits for a dead one at the
// door, cuts it off, reaps another one, cuts that one off too, and has its first
// room back.
func TestManyThingsByOneEvent(t *testing.T) {
	op := impl.BookOp{Kind: reaps, A: 0}
	w := impl.World{
		Words: words{1: wordOf(90, 0), 2: doorOf(doorHeld, 2, 4, 20), 5: regOf(live, 4, 3)}.in(scene()),
		Guests: []impl.Guest{
			{Slot: 0, Epoch: 2}, guestOf(1, 1), {Slot: 2, Epoch: 4},
		},
	}
	asked := impl.WorldDo(w, asksOf(1, op.Kind, op.A, op.B))
	op.Slot = 1
	all := []impl.TaleItem{cutBy(1, 2), cutBy(1, 0), itemOf(1, op, codeMore, 0)}
	seeTells(t, "by one event", asked, []impl.WorldEvent{stepsOf(1, 400)}, all...)
	seeTells(t, "with the asking", w, []impl.WorldEvent{asksOf(1, reaps, 0, 0), stepsOf(1, 400)}, all...)
	// And by single steps: at each of them what was told so far, and no more.
	met := map[int]bool{}
	for n := range 120 {
		list := seeTale(t, "so many steps", asked, []impl.WorldEvent{stepsOf(1, n)})
		met[len(list)] = true
		if len(list) > 3 || !slices.Equal(list, all[:len(list)]) {
			t.Fatalf("%d steps: %v", n, list)
		}
		seeTells(t, "one by one", asked, slices.Repeat([]impl.WorldEvent{stepsOf(1, 1)}, n), list...)
	}
	if len(met) != 4 {
		t.Error(met)
	}
	again := []impl.WorldEvent{stepsOf(1, 400), asksOf(1, reaps, 0, 0), stepsOf(1, 400), asksOf(1, leaves, 0, 0), stepsOf(1, 400)}
	op.A = 0
	seeTells(t, "and on", asked, again, append(all, itemOf(1, op, codeDone, 0), itemOf(1, impl.BookOp{Kind: leaves, Slot: 1}, codeDone, 0))...)
}

// What has happened stands in the order in which it has, not in that of answers:
// guest 0 turns the door, guest 2 comes in and is answered, guest 1 carries out
// what guest 0 has done, and then makes a call of its own; guest 0 is answered
// last.
func TestTheOrderIsThatOfTurns(t *testing.T) {
	w := sceneWorld(guestOf(0, 2), guestOf(1, 1), impl.GuestNew(2))
	_, n := alone(t, impl.BookOp{Kind: takes, A: 2})
	turn := 0
	for at := range n {
		if len(impl.TalePlay(w, []impl.WorldEvent{asksOf(0, takes, 2, 0), stepsOf(0, at)})) > 0 {
			turn = at
			break
		}
	}
	events := []impl.WorldEvent{
		asksOf(0, takes, 2, 0), stepsOf(0, turn), asksOf(2, enters, 0, 0), stepsOf(2, 400),
		asksOf(1, takes, 2, 0), stepsOf(1, 400), stepsOf(0, 400),
	}
	seeTells(t, "in order", w, events,
		itemOf(0, impl.BookOp{Kind: takes, Slot: 0, A: 2}, codeDone, 2),
		itemOf(2, impl.BookOp{Kind: enters, Slot: 2}, codeDone, 5),
		itemOf(1, impl.BookOp{Kind: takes, Slot: 1, A: 2}, codeDone, 4))
	x := impl.WorldPlay(w, events)
	if x.Guests[0].Busy || x.Guests[0].Val != 2 || x.Guests[1].Val != 4 || x.Guests[2].Val != 5 {
		t.Errorf("%+v", x.Guests)
	}
}

// Thrown worlds and thrown events, held against the model.
func TestAnyTale(t *testing.T) {
	onOneProcessor(t)
	d := dice(82)
	met := map[bool]int{}
	for range 1500 {
		w := d.anyWorld()
		x, events := w, []impl.WorldEvent(nil)
		for range 1 + d.below(6) {
			e := d.anyEvent(x)
			events, x = append(events, e), modelHappens(x, e)
		}
		for _, item := range seeTale(t, "thrown", w, events) {
			met[item.Cut]++
		}
	}
	if met[true] < 50 || met[false] < 50 {
		t.Errorf("%d cuts, %d others", met[true], met[false])
	}
}
