package tests

import (
	"maps"
	"slices"
	"testing"

	"loop.example/hostel/impl"
)

// lodging is whose a room is, and how large it is.
type lodging struct {
	slot  int
	epoch int
	units int
}

// watch is a world in which things happen step by step, and which is asked for P23
// to P28 behind each single one. Of what it has met it counts: by 100 and its
// answer who was answered, by 300 and its code what has happened, by 400 what
// steps have done, by 500 rooms that were taken, 501 given back, 502 handed on,
// and 503 reaped, by 600 and its place a guest that had the door, and by 700 and
// its state in the true book who was told that it is fenced.
type watch struct {
	*chronicle
	rooms map[int]lodging
}

func watchOf(t *testing.T, w impl.World) *watch {
	t.Helper()
	x := &watch{chronicle: chronicleOf(t, w), rooms: map[int]lodging{}}
	x.seeAlways(t)
	x.seeUnits(t)
	return x
}

// apart is the same once more, for something else to happen there; what it meets
// is counted here, too.
func (x *watch) apart() *watch {
	inner := *x.chronicle
	return &watch{chronicle: &inner, rooms: maps.Clone(x.rooms)}
}

// sees lets something happen, one step behind the other.
func (x *watch) sees(t *testing.T, e impl.WorldEvent) {
	t.Helper()
	if e.Kind != stepsKind {
		was := x.w
		x.w = impl.WorldDo(was, e)
		x.seeBehind(t, was, e.I, didNothing)
		return
	}
	for range min(e.N, mostSteps) {
		if !between(e.I, 0, len(x.w.Guests)-1) || !x.w.Guests[e.I].Up || !x.w.Guests[e.I].Busy {
			return
		}
		was := x.w
		did := 0
		x.w, did = impl.WorldOne(was, e.I)
		x.seeBehind(t, was, e.I, did)
		x.met[400+did]++
	}
}

// seeBehind asks for all promises behind what has happened, by guest i if by
// anybody.
func (x *watch) seeBehind(t *testing.T, was impl.World, i int, did int) {
	t.Helper()
	x.seeNumbers(t, was)
	ahead := x.b
	if !slices.Equal(was.Words, x.w.Words) {
		b, ok := impl.WorldBook(x.w)
		if !ok {
			t.Fatalf("no true book: %+v", x.w)
		}
		x.b = b
		x.seeUnits(t)
	}
	x.seeAlways(t)
	x.seeHappened(t, was, i, did, ahead)
	x.seeRooms(t)
	if between(i, 0, len(was.Guests)-1) && x.w.Guests[i].Count > was.Guests[i].Count {
		x.seeTold(t, i)
	}
}

// seeAlways asks for P23.
func (x *watch) seeAlways(t *testing.T) {
	t.Helper()
	have := modelHave(x.w)
	if !impl.VowWorld(x.w) || len(have) > 1 {
		t.Fatalf("VowWorld is %v, and the door is with %v: %+v", impl.VowWorld(x.w), have, x.w)
	}
	if i, has := impl.VowHolder(x.w); has != (len(have) == 1) || has && i != have[0] {
		t.Fatalf("VowHolder is %d, %v, and the door is with %v: %+v", i, has, have, x.w)
	}
	for _, i := range have {
		x.met[600+x.w.Guests[i].Pc]++
	}
}

// seeUnits asks for P24: how often each unit is in a room of somebody, in a free
// one, and on an empty page.
func (x *watch) seeUnits(t *testing.T) {
	t.Helper()
	many := make([]int, len(x.b.Owner))
	count := func(from int, units int) {
		for unit := from; unit < from+units; unit++ {
			many[unit]++
		}
	}
	for unit, owner := range x.b.Owner {
		if owner > 0 {
			count(unit, modelRoom(x.b, unit))
		}
	}
	for kind, rooms := range x.b.Heads {
		for _, unit := range rooms {
			count(unit, 1<<kind)
		}
	}
	for page, is := range x.b.Pages {
		if is == empty {
			count(8*page, 8)
		}
	}
	if slices.Min(many) != 1 || slices.Max(many) != 1 {
		t.Fatalf("so often is each unit somewhere: %v: %+v", many, x.b)
	}
}

// seeHappened asks for P25 of a step, and enters what has happened: nothing of the
// book turns but by it.
func (x *watch) seeHappened(t *testing.T, was impl.World, i int, did int, ahead impl.Book) {
	t.Helper()
	want := ahead
	switch did {
	case didTurn:
		g := was.Guests[i]
		if ahead.In[g.Slot] == out || ahead.Epoch[g.Slot] != g.Epoch || valOf(was.Words[3+g.Slot])/4 != g.Epoch {
			t.Fatalf("guest %d has done %v, and is not in: %+v: %+v", i, g.Op, ahead, was)
		}
		b, code, val := modelDo(ahead, g.Op)
		want = b
		x.met[300+code]++
		x.enter(g, code, val)
	case didJoin:
		g := x.w.Guests[i]
		if ahead.In[g.Slot] != out || ahead.Epoch[g.Slot]+1 != g.Epoch {
			t.Fatalf("guest %d has come in, with %d: %+v", i, g.Epoch, ahead)
		}
		want, _, _ = modelDo(ahead, impl.BookOp{Kind: enters, Slot: g.Slot})
	case didCut:
		want = modelCut(ahead, x.w.Guests[i].Who)
	}
	if !alike(x.b, want) {
		t.Fatalf("guest %d did %d: %+v\nnot %+v", i, did, x.b, want)
	}
}

// enter writes down whose a room is from now on, if a call gives it to somebody.
func (x *watch) enter(g impl.Guest, code int, val int) {
	switch {
	case g.Op.Kind == takes && code == codeDone:
		x.rooms[val] = lodging{slot: g.Slot, epoch: g.Epoch, units: modelRoom(x.b, val)}
		x.met[500]++
	case g.Op.Kind == gives && code == codeDone:
		delete(x.rooms, g.Op.A)
		x.met[501]++
	case g.Op.Kind == hands && code == codeDone:
		room := x.rooms[g.Op.A]
		room.slot, room.epoch = g.Op.B, x.b.Epoch[g.Op.B]
		x.rooms[g.Op.A] = room
		x.met[502]++
	case g.Op.Kind == reaps && code == codeMore:
		delete(x.rooms, val)
		x.met[503]++
	}
}

// seeRooms asks for P26: all rooms that somebody was given, and has not given away,
// and that were not reaped, are its own, and it is in; nobody has any other one.
func (x *watch) seeRooms(t *testing.T) {
	t.Helper()
	for at, room := range x.rooms {
		mine := x.b.Owner[at] == room.slot+1 && modelRoom(x.b, at) == room.units
		if !mine || x.b.In[room.slot] == out || x.b.Epoch[room.slot] != room.epoch {
			t.Fatalf("room %d was given to %+v: %+v", at, room, x.b)
		}
	}
	for at, owner := range x.b.Owner {
		if _, given := x.rooms[at]; owner > 0 && !given {
			t.Fatalf("room %d was not given: %+v, of %v", at, x.b, x.rooms)
		}
	}
}

// seeNumbers asks for P27.
func (x *watch) seeNumbers(t *testing.T, was impl.World) {
	t.Helper()
	for at, word := range was.Words {
		if stampOf(x.w.Words[at]) < stampOf(word) {
			t.Fatalf("word %d was %x, is %x", at, word, x.w.Words[at])
		}
	}
}

// seeTold asks for P28 of who has been answered.
func (x *watch) seeTold(t *testing.T, i int) {
	t.Helper()
	g := x.w.Guests[i]
	x.met[100+g.Code]++
	if g.Code != codeFenced {
		return
	}
	reg := valOf(x.w.Words[3+g.Slot])
	lives := x.b.In[g.Slot] == live && x.b.Epoch[g.Slot] == g.Epoch
	if reg == live+4*g.Epoch || lives {
		t.Fatalf("guest %d was told that it is fenced, and is in: %+v: %+v", i, x.b, x.w)
	}
	if x.b.Epoch[g.Slot] != g.Epoch || x.b.In[g.Slot] == out {
		x.met[700+out]++
	} else {
		x.met[700+cut]++
	}
}

// follows puts others in the places of who is dead, and of who was fenced: what
// they have done stays, and so does what is their own.
func (x *watch) follows(d *dice) {
	c, _ := modelHouse(x.w.Words)
	x.w = copyWorld(x.w)
	for i, g := range x.w.Guests {
		if !g.Up || !g.Busy && g.Code == codeFenced {
			x.w.Guests[i] = impl.GuestNew(d.below(c.Slots))
		}
	}
}

// calls lets a guest make a call, as far as it comes.
func (x *watch) calls(t *testing.T, i int, op impl.BookOp) impl.Guest {
	t.Helper()
	x.sees(t, asksOf(i, op.Kind, op.A, op.B))
	x.sees(t, stepsOf(i, mostSteps))
	return x.w.Guests[i]
}

// seeMet asks that a test has come to all that it is there for.

func seeMet(t *testing.T, met map[int]int, all ...int) {
	t.Helper()
	for _, what := range all {
		if met[what] == 0 {
			t.Errorf("it never came to %d: %v", what, met)
		}
	}
}

// P23 to P28 on walks of guests that go on at single words, die, are cut off and
// are born, in houses of many sizes.
func TestVowsOfWalks(t *testing.T) {
	onOneProcessor(t)
	met := map[int]int{}
	for n := range 24 {
		d := dice(1000 + n)
		c := impl.PlatCfg{Slots: 1 + n%mostSlots, Pages: 1 + n/mostSlots%3, Lease: 1 + d.below(4)}
		x := watchOf(t, impl.WorldOpen(c))
		x.met = met
		for range 5 {
			for range 300 {
				// Some walks have many events that are none, and longer ones.
				e := x.word(&d)
				if n%6 == 5 {
					e = d.sensible(x.w)
				}
				x.sees(t, e)
			}
			x.follows(&d)
		}
	}
	seeMet(t, met, 100+codeDone, 100+codeFull, 100+codeWhom, 100+codeLives, 100+codeMore, 100+codeFenced,
		300+codeDone, 300+codeMore, 300+codeKeeps, 400+didTurn, 400+didCut, 400+didBreak, 400+didJoin,
		500, 501, 502, 503, 600+pcSee, 600+pcDesk, 600+pcWrite, 600+pcTurn, 600+pcLook, 600+pcCarry, 600+pcOpen, 600+pcYield,
		700+out, 700+cut)
}

// pair is a world in which two guests are in with a room of two units each, and a
// third one is there for when the first one's slot is free; the first one is asked
// for a call, and has given its room back ahead of that, if it is to leave.
func pair(t *testing.T, op impl.BookOp, met map[int]int) *watch {
	t.Helper()
	x := watchOf(t, impl.WorldOpen(impl.PlatCfg{Slots: 2, Pages: 2, Lease: 3}))
	x.met = met
	for slot := range 2 {
		x.sees(t, bornAt(slot))
		x.calls(t, slot, impl.BookOp{Kind: enters})
		x.calls(t, slot, impl.BookOp{Kind: takes, A: 2})
	}
	x.sees(t, bornAt(0))
	if op.Kind == leaves {
		x.calls(t, 0, impl.BookOp{Kind: gives, A: 0})
	}
	x.sees(t, asksOf(0, op.Kind, op.A, op.B))
	return x
}

// wordsOf are the words of the guest's call, one behind the other: at each of them
// something else may happen apart from it. Of those that it only sees some will do.
func (x *watch) wordsOf(t *testing.T, i int, every int, see func(n int, y *watch)) {
	t.Helper()
	for n := 0; x.w.Guests[i].Busy && n < 200; n++ {
		if x.w.Guests[i].Pc != pcSee || n%every == 0 {
			see(n, x.apart())
		}
		x.sees(t, stepsOf(i, 1))
	}
}

// behindFirst is what happens behind a guest that has stopped: the second one makes
// a call and comes some way, the first one goes on or is dead, its lease runs out,
// it is reaped, and a third one comes in at its slot and takes a room, in the midst
// of which the first one wakes up.
func (x *watch) behindFirst(t *testing.T, second impl.BookOp, n int, dies bool) {
	t.Helper()
	x.sees(t, ticksOf(n%2*4))
	if dies {
		x.sees(t, diesOf(0))
	}
	x.sees(t, asksOf(1, second.Kind, second.A, second.B))
	x.sees(t, stepsOf(1, 10+n*7%60))
	if n%3 == 0 {
		x.sees(t, stepsOf(0, 1+n%5))
	}
	x.sees(t, ticksOf(4))
	x.sees(t, stepsOf(1, mostSteps))
	for range 4 {
		if g := x.calls(t, 1, impl.BookOp{Kind: reaps, A: 0}); g.Code != codeMore {
			break
		}
	}
	if g := x.w.Guests[1]; x.b.In[0] != out && g.Code != codeFenced {
		t.Fatalf("slot 0 is not reaped: %+v, %+v", g, x.b)
	}
	x.calls(t, 2, impl.BookOp{Kind: enters})
	x.sees(t, asksOf(2, takes, 2, 0))
	x.sees(t, stepsOf(2, n*3%60))
	x.sees(t, stepsOf(0, mostSteps))
	x.sees(t, stepsOf(2, mostSteps))
	if g := x.w.Guests[2]; g.Epoch > 0 && g.Code != codeDone && g.Code != codeFull {
		t.Fatalf("the new one: %+v", g)
	}
}

// firstCalls are calls of the first of a pair, of each kind.
func firstCalls() []impl.BookOp {
	return []impl.BookOp{
		{Kind: takes, A: 1}, {Kind: gives, A: 0}, {Kind: hands, A: 0, B: 1}, {Kind: leaves}, {Kind: reaps, A: 1}, {Kind: takes, A: 9},
	}
}

// P23 to P28: at each word of each call a guest stops or dies.
func TestVowsAtEachWord(t *testing.T) {
	onOneProcessor(t)
	others := []impl.BookOp{{Kind: takes, A: 2}, {Kind: gives, A: 2}, {Kind: reaps, A: 0}, {Kind: hands, A: 2, B: 0}}
	met := map[int]int{}
	for _, op := range firstCalls() {
		x := pair(t, op, met)
		if op.Kind == reaps {
			x.sees(t, ticksOf(4))
		}
		x.wordsOf(t, 0, 15, func(n int, y *watch) {
			for k, second := range others {
				y.apart().behindFirst(t, second, n+k, (n/2+k)%2 == 0)
			}
		})
	}
	seeMet(t, met, 100+codeDone, 100+codeMore, 100+codeFenced, 300+codeDone, 300+codeMore,
		400+didTurn, 400+didCut, 400+didBreak, 400+didJoin, 500, 501, 502, 503, 600+pcCut, 600+pcOpen, 700+out)
}

// P23 to P28: at each word of each call anything may happen, births too.
func TestVowsOfWalksFromEachWord(t *testing.T) {
	onOneProcessor(t)
	d := dice(1100)
	met := map[int]int{}
	for _, op := range firstCalls() {
		pair(t, op, met).wordsOf(t, 0, 9, func(n int, y *watch) {
			y.sees(t, ticksOf(n%3*2))
			for range 150 {
				y.sees(t, y.word(&d))
			}
		})
	}
	seeMet(t, met, 100+codeDone, 100+codeMore, 100+codeFenced, 300+codeDone, 300+codeMore, 300+codeKeeps,
		400+didTurn, 400+didCut, 400+didBreak, 400+didJoin, 500, 501, 502, 503, 600+pcOpen, 600+pcYield, 700+out, 700+cut)
}

// P23 to P28: two stop or die, one at each word of its call, and the other one at
// each word of its own, of cutting the first one off, of breaking the door and of
// carrying out what was done; a third one goes on, and the two wake up behind it.
func TestVowsBehindTwo(t *testing.T) {
	onOneProcessor(t)
	met := map[int]int{}
	d := dice(1200)
	pairs := [][2]impl.BookOp{
		{{Kind: takes, A: 2}, {Kind: gives, A: 2}},
		{{Kind: gives, A: 0}, {Kind: reaps, A: 0}},
		{{Kind: hands, A: 0, B: 2}, {Kind: takes, A: 2}},
	}
	thirds := []impl.BookOp{{Kind: takes, A: 2}, {Kind: gives, A: 4}, {Kind: hands, A: 4, B: 0}, {Kind: reaps, A: 0}, {Kind: reaps, A: 1}}
	for which, ops := range pairs {
		x := watchOf(t, impl.WorldOpen(impl.PlatCfg{Slots: 3, Pages: 1, Lease: 2}))
		x.met = met
		for i := range 3 {
			x.sees(t, bornAt(i))
			x.calls(t, i, impl.BookOp{Kind: enters})
			x.calls(t, i, impl.BookOp{Kind: takes, A: 2})
		}
		x.sees(t, asksOf(0, ops[0].Kind, ops[0].A, ops[0].B))
		x.wordsOf(t, 0, 16, func(n int, y *watch) {
			if n%3 != which && y.w.Guests[0].Pc < pcTurn {
				return
			}
			y.sees(t, ticksOf(n%2*3))
			y.sees(t, asksOf(1, ops[1].Kind, ops[1].A, ops[1].B))
			y.wordsOf(t, 1, 16, func(m int, z *watch) {
				if dead := (n/2 + m/3) % 4; dead < 2 {
					z.sees(t, diesOf(dead))
				}
				z.sees(t, ticksOf(m%3))
				third := thirds[(n+m)%len(thirds)]
				z.sees(t, asksOf(2, third.Kind, third.A, third.B))
				z.wakes(t, &d)
			})
		})
	}
	seeMet(t, met, 100+codeDone, 100+codeMore, 100+codeFenced, 300+codeDone, 300+codeMore,
		400+didTurn, 400+didCut, 400+didBreak, 600+pcCut, 600+pcOpen, 700+cut)
}

// wakes lets all go on by some words each, in any order; then leases run out, and
// the third one reaps whoever has not come to its end.
func (x *watch) wakes(t *testing.T, d *dice) {
	t.Helper()
	for range 12 {
		x.sees(t, stepsOf(d.below(3), 1+d.below(4)*d.below(12)))
	}
	x.sees(t, ticksOf(3))
	for _, i := range []int{2, 1, 0} {
		x.sees(t, stepsOf(i, mostSteps))
	}
	x.calls(t, 2, impl.BookOp{Kind: reaps, A: d.below(2)})
}

// P23 to P28: one who carries out what another has done stops at each word of
// that; the other one comes to its end, and makes a second call, at each word of
// which the one who has stopped wakes up, with what it knows of the first call.
func TestVowsOfSlowHelpers(t *testing.T) {
	onOneProcessor(t)
	met := map[int]int{}
	seconds := []impl.BookOp{{Kind: takes, A: 8}, {Kind: gives, A: 0}, {Kind: takes, A: 1}, {Kind: leaves}, {Kind: hands, A: 0, B: 1}}
	for which, op := range []impl.BookOp{{Kind: takes, A: 1}, {Kind: gives, A: 0}, {Kind: hands, A: 0, B: 1}, {Kind: leaves}} {
		x := pair(t, op, met)
		x.happensAt(t, 0, pcLook)
		x.sees(t, asksOf(1, takes, 2, 0))
		x.happensAt(t, 1, pcAid)
		x.wordsOf(t, 1, 16, func(n int, y *watch) {
			if !between(y.w.Guests[1].Pc, pcAid, pcOpen) {
				return
			}
			y.sees(t, stepsOf(0, mostSteps))
			second := seconds[(n+which)%len(seconds)]
			if y.w.Guests[0].Epoch == 0 {
				second = impl.BookOp{Kind: enters}
			}
			y.sees(t, asksOf(0, second.Kind, second.A, second.B))
			y.wordsOf(t, 0, 16, func(m int, z *watch) {
				z.sees(t, stepsOf(1, 1+m%9))
				for _, i := range []int{0, 1, 0} {
					z.sees(t, stepsOf(i, 200))
				}
				if g := z.w.Guests; g[0].Busy || g[1].Busy || g[1].Code != codeDone {
					t.Fatalf("%v, then %v: %+v", op, second, g)
				}
			})
		})
	}
	seeMet(t, met, 100+codeDone, 300+codeDone, 400+didTurn, 500, 501, 502, 600+pcWrite, 600+pcOpen)
}

// happensAt lets a guest go on until it stands at a place.
func (x *watch) happensAt(t *testing.T, i int, pc int) {
	t.Helper()
	for n := 0; x.w.Guests[i].Pc != pc; n++ {
		x.sees(t, stepsOf(i, 1))
		if n > mostSteps || !x.w.Guests[i].Busy {
			t.Fatalf("guest %d never stands at %d: %+v", i, pc, x.w.Guests[i])
		}
	}
}

// P23 to P28: three guests go on in turns, by one word or a few; one of them dies
// in turn after turn, time goes by in another one, and others are born.
func TestVowsInTurns(t *testing.T) {
	onOneProcessor(t)
	met := map[int]int{}
	calls := []impl.BookOp{{Kind: takes, A: 3}, {Kind: takes, A: 4}, {Kind: gives, A: 0}, {Kind: hands, A: 4, B: 1}, {Kind: reaps, A: 0}, {Kind: leaves}}
	for dies := 0; dies < 330; dies += 5 {
		x := watchOf(t, impl.WorldOpen(impl.PlatCfg{Slots: 3, Pages: 1, Lease: 2}))
		x.met = met
		asked := [mostGuests]int{}
		for n := range 600 {
			i := n % 4
			if i >= len(x.w.Guests) {
				x.sees(t, bornAt(i%3))
				continue
			}
			g := x.w.Guests[i]
			vain := g.Busy || !g.Up || g.Code == codeFenced || g.Epoch == 0 && x.b.In[g.Slot] != out
			if !vain {
				op := calls[(asked[i]+i)%len(calls)]
				if g.Epoch == 0 {
					op = impl.BookOp{Kind: enters}
				}
				asked[i]++
				x.sees(t, asksOf(i, op.Kind, op.A, op.B))
			}
			x.sees(t, stepsOf(i, 1+(n+dies)%(2+i)))
			if n == dies {
				x.sees(t, diesOf(0))
			}
			if n == dies*7%330 || n == 400 {
				x.sees(t, ticksOf(3))
			}
		}
	}
	seeMet(t, met, 100+codeDone, 100+codeFenced, 300+codeDone, 400+didTurn, 400+didCut, 400+didBreak, 400+didJoin, 500, 501, 600+pcOpen)
}

// Near their ends, the numbers of the door, the epochs and the clock: what is
// always so is so there, too.
func TestVowsNearTheEnds(t *testing.T) {
	onOneProcessor(t)
	met := map[int]int{}
	for n := range 12 {
		d := dice(1300 + n)
		w := impl.WorldOpen(impl.PlatCfg{Slots: 2, Pages: 1, Lease: 2})
		switch n % 3 {
		case 0:
			w.Words[2] = doorOf(doorFree, 0, 0, mostDoor-12)
		case 1:
			w.Words[3], w.Words[4] = regOf(out, 4092, 0), regOf(out, 4094, 0)
		case 2:
			w.Words[1] = wordOf(mostVal-6, 0)
		}
		x := watchOf(t, w)
		x.met = met
		for range 3 {
			for range 300 {
				x.sees(t, x.word(&d))
			}
			x.follows(&d)
		}
	}
	seeMet(t, met, 100+codeDone, 100+codeWorn, 400+didTurn, 400+didJoin)
}

// Who has the door in a call of one guest alone: from its swap on, until it is
// open again; and who only carries out what another has done has not.
func TestHoldersOfCalls(t *testing.T) {
	for _, op := range append(firstCalls(), impl.BookOp{Kind: takes, A: 33}, impl.BookOp{Kind: hands, A: 0, B: 5}) {
		x := pair(t, op, map[int]int{})
		x.wordsOf(t, 0, 1, func(n int, y *watch) {
			g := y.w.Guests[0]
			want := -1
			if g.Pc >= pcSee {
				want = 0
			}
			seeHolder(t, "a call", y.w, want)
			if g.Pc != pcOpen && !between(g.Pc, pcLook, pcCarry) {
				return
			}
			// Another one helps: the door is with who has turned it, until it is open.
			y.sees(t, asksOf(1, takes, 2, 0))
			for y.w.Guests[1].Pc != pcSee {
				door, pc := y.w.Words[2], y.w.Guests[1].Pc
				want := map[bool]int{true: 0, false: -1}[door == g.Door]
				seeHolder(t, "another one helps", y.w, want)
				y.sees(t, stepsOf(1, 1))
				if pc == pcOpen && (y.w.Words[2] == door || stampOf(y.w.Words[2]) != g.Seq+1) {
					t.Fatalf("the door is not open: %x", y.w.Words[2])
				}
			}
			seeHolder(t, "another one has it", y.w, 1)
		})
		if x.w.Guests[0].Busy {
			t.Errorf("%v is not answered: %+v", op, x.w.Guests[0])
		}
		seeHolder(t, "it is answered", x.w, -1)
	}
}

// P25 and P28: a guest stops at each word of each call, is reaped, and wakes up: if
// its call had not happened by then it is told that it is fenced, and so it is told
// of all calls from then on; none of them happens, whoever is in at its slot.
func TestNothingBehindReaping(t *testing.T) {
	onOneProcessor(t)
	fenced, told := 0, 0
	for _, op := range firstCalls() {
		x := pair(t, op, map[int]int{})
		x.wordsOf(t, 0, 4, func(n int, y *watch) {
			was := y.w.Guests[0]
			y.sees(t, ticksOf(4))
			for y.calls(t, 1, impl.BookOp{Kind: reaps, A: 0}).Code == codeMore {
				continue
			}
			if y.b.In[0] != out || len(modelOf(y.b, 0)) > 0 {
				t.Fatalf("slot 0 is not reaped: %+v", y.b)
			}
			if n%2 == 0 {
				y.calls(t, 2, impl.BookOp{Kind: enters})
				y.calls(t, 2, impl.BookOp{Kind: takes, A: 2})
			}
			b := y.b
			y.sees(t, stepsOf(0, mostSteps))
			g := y.w.Guests[0]
			ok := g.Code == codeFenced
			switch {
			case was.Own || was.Pc == pcYield:
				ok = g.Code == was.Code
			case was.Pc == pcSee:
				// What it has seen of itself may be old; but then it comes to nothing, too.
				ok = ok || g.Code == codeLives
			}
			if !alike(y.b, b) || g.Busy || !ok {
				t.Fatalf("%v, at word %d: %+v: %+v", op, n, g, y.b)
			}
			if g.Code == codeFenced {
				fenced++
			} else {
				told++
			}
			y.asksInVain(t, b)
		})
	}
	if fenced < 60 || told < 20 {
		t.Errorf("%d were fenced, %d were told", fenced, told)
	}
}

// asksInVain asks the first guest, that was reaped, for all calls: nothing comes of
// them.
func (x *watch) asksInVain(t *testing.T, b impl.Book) {
	t.Helper()
	epoch := x.w.Guests[0].Epoch
	for _, op := range []impl.BookOp{{Kind: takes, A: 1}, {Kind: gives, A: 0}, {Kind: hands, A: 0, B: 1}, {Kind: leaves}, {Kind: reaps, A: 1}, {Kind: enters}} {
		if epoch == 0 {
			break // it had left ahead of that, and may come in again
		}
		want := codeFenced
		if op.Kind == enters {
			want = codeTaken
		}
		if g := x.calls(t, 0, op); g.Code != want || g.Epoch != epoch || !alike(x.b, b) {
			t.Fatalf("%v behind its reaping: %+v: %+v", op, g, x.b)
		}
	}
}
