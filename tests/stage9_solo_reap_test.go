package tests

import (
	"math"
	"slices"
	"testing"

	"loop.example/hostel/impl"
)

// kindsHouse is the house of bookOfKinds: slot 0 is in with epoch 1 and has four
// rooms, one of them of two pages; slot 1 was cut off with epoch 4095 and has
// three; slot 2 is in with epoch 9 and has none; slot 3 was left with epoch 7.
var kindsHouse = impl.PlatCfg{Slots: 4, Pages: 6, Lease: 4}

// kindsWorld is that house, with a guest of slot 0 and one of slot 2 that are in.
func kindsWorld(has words) impl.World {
	w := standing(kindsHouse, bookOfKinds(), stampThree)
	w[1] = wordOf(50, 0)
	w[2] = doorOf(doorFree, 0, 0, 20)
	for slot, beat := range []uint64{wordOf(50, 1), wordOf(40, 4095), wordOf(49, 9), wordOf(9, 7)} {
		w[beatAt(kindsHouse, slot)] = beat
	}
	return impl.World{Words: has.in(w), Guests: []impl.Guest{guestOf(0, 1), guestOf(2, 9), guestOf(3, 0)}}
}

// reaping is a guest that reaps a slot alone in that house: how many rooms it is
// told of, by how many answers, and the last of these.
type reaping struct {
	why     string
	has     words
	i       int
	slot    int
	rooms   int
	answers int
	code    int
	epoch   int
}

// reapings are such that end by themselves.
func reapings() []reaping {
	reg := func(slot int) int { return regAt(kindsHouse, slot) }
	beat := func(slot int) int { return beatAt(kindsHouse, slot) }
	fresh := words{beat(0): wordOf(50, 2)}
	return []reaping{
		{"many rooms, and its lease is over now", nil, 1, 0, 4, 5, codeDone, 9},
		{"many rooms, and it was cut off", nil, 1, 1, 3, 4, codeDone, 9},
		{"the other one reaps it", nil, 0, 1, 3, 4, codeDone, 1},
		{"no rooms", nil, 0, 2, 0, 1, codeDone, 1},
		{"no rooms, and it was cut off", words{reg(2): regOf(cut, 9, 3)}, 0, 2, 0, 1, codeDone, 1},
		{"nobody is in", nil, 0, 3, 0, 1, codeNobody, 1},
		{"nobody was ever in", words{reg(3): 0, beat(3): 0}, 0, 3, 0, 1, codeNobody, 1},
		{"its own slot, with rooms", nil, 0, 0, 0, 1, codeLives, 1},
		{"its own slot", nil, 1, 2, 0, 1, codeLives, 9},
		{"no slot", nil, 0, 4, 0, 1, codeNobody, 1},
		{"a slot below 0", nil, 0, -1, 0, 1, codeNobody, 1},
		{"a slot far below 0", nil, 0, math.MinInt, 0, 1, codeNobody, 1},
		{"a slot far above all", nil, 0, math.MaxInt, 0, 1, codeNobody, 1},
		{"a lease that is not over: it is ahead of itself", fresh, 1, 0, 0, 1, codeLives, 9},
		{"it is not in", nil, 2, 0, 0, 1, codeNobody, 0},
		{"it is not in, and reaps itself", nil, 2, 3, 0, 1, codeNobody, 0},
		{"it was cut off", words{reg(0): regOf(cut, 1, 3)}, 0, 1, 0, 1, codeFenced, 1},
		{"it was reaped", words{reg(2): regOf(out, 9, 3)}, 1, 0, 0, 1, codeFenced, 9},
		{"another one is in at its slot", words{reg(2): regOf(live, 10, 3)}, 1, 0, 0, 1, codeFenced, 9},
		{"another one has beaten at its slot", words{beat(2): wordOf(49, 10)}, 1, 0, 0, 1, codeFenced, 9},
		{"one behind it has written on its desk", words{deskAt(kindsHouse, 2): wordOf(0, 21)}, 1, 0, 0, 1, codeFenced, 9},
		{"somebody else holds the door", words{2: doorOf(doorHeld, 0, 1, 20)}, 1, 1, 3, 4, codeDone, 9},
		{"the slot itself holds the door", words{2: doorOf(doorHeld, 0, 1, 20)}, 1, 0, 4, 5, codeDone, 9},
		{"the door is worn", words{2: doorOf(doorFree, 0, 0, 1000000)}, 1, 0, 0, 1, codeWorn, 9},
		{"the door is worn behind two", words{2: doorOf(doorFree, 0, 0, 999998)}, 1, 0, 2, 3, codeWorn, 9},
		{"the door is worn behind the last room", words{2: doorOf(doorFree, 0, 0, 999996)}, 1, 0, 4, 5, codeWorn, 9},
		{"the door is just not worn", words{2: doorOf(doorFree, 0, 0, 999995)}, 1, 0, 4, 5, codeDone, 9},
	}
}

func TestReapings(t *testing.T) {
	for _, s := range reapings() {
		w := kindsWorld(s.has)
		got, rooms := seeReap(t, s.why, w, s.i, s.slot)
		want := impl.Guest{Up: true, Slot: w.Guests[s.i].Slot, Epoch: s.epoch, Code: s.code, Count: 11 + s.answers}
		want.Op = impl.BookOp{Kind: reaps, Slot: want.Slot, A: s.slot}
		if rooms != s.rooms || !sameGuest(got.Guests[s.i], want) || got.Words[1] != wordOf(55, 0) {
			t.Errorf("%s: %d rooms, not %d: %+v", s.why, rooms, s.rooms, got.Guests[s.i])
		}
		for i, g := range w.Guests {
			if i != s.i && !sameGuest(got.Guests[i], g) {
				t.Errorf("%s: guest %d is another: %+v", s.why, i, got.Guests[i])
			}
		}
		seeReaped(t, s, w, got)
	}
}

// seeReaped asks that the book behind it is what the plain book says of so many
// reapings; who is cut off besides had the door.
func seeReaped(t *testing.T, s reaping, w impl.World, got impl.World) {
	t.Helper()
	b, behind := bookAsItStands(t, w.Words), bookAsItStands(t, got.Words)
	_, holder, _ := impl.CellDoorOf(w.Words[2])
	for slot, in := range behind.In {
		if in != b.In[slot] && (slot == s.slot || slot == holder) {
			b = modelCut(b, slot)
		}
	}
	for n := range s.answers {
		if n == s.rooms && s.code != codeDone {
			break
		}
		x, code, _ := modelDo(b, impl.BookOp{Kind: reaps, Slot: w.Guests[s.i].Slot, A: s.slot})
		if (code == codeMore) != (n < s.rooms) {
			t.Errorf("%s: answer %d is %d", s.why, n, code)
		}
		b = x
	}
	if !alike(behind, b) {
		t.Errorf("%s: %+v\nnot %+v", s.why, behind, b)
	}
}

// The clock has come to its end: leases are not over.
func TestReapingsNearTheEndOfTheClock(t *testing.T) {
	for clock, rooms := range map[int]int{mostVal - 6: 4, mostVal - 5: 4, mostVal - 4: 0, mostVal - 1: 0, mostVal: 0} {
		w := kindsWorld(words{1: wordOf(clock, 0), beatAt(kindsHouse, 0): wordOf(clock, 1)})
		got, many := seeReap(t, "near the end of the clock", w, 1, 0)
		code := codeDone
		if rooms == 0 {
			code = codeLives
		}
		if many != rooms || got.Guests[1].Code != code || valOf(got.Words[1]) != min(clock+5, mostVal) {
			t.Errorf("clock %d: %d rooms, %+v", clock, many, got.Guests[1])
		}
		// Who was cut off is reaped at any time.
		if _, many := seeReap(t, "near the end of the clock", w, 1, 1); many != 3 {
			t.Errorf("clock %d: %d rooms", clock, many)
		}
	}
}

// Who is dead asks nobody, and makes no step; whatever it was told last is no
// answer.
func TestTheDeadReapNothing(t *testing.T) {
	told := impl.Guest{Slot: 2, Epoch: 9, Op: impl.BookOp{Kind: reaps, Slot: 2}, Code: codeMore, Val: 1, Count: 3}
	last := with(told, func(g *impl.Guest) { g.Busy, g.Pc = true, pcYield })
	for why, g := range map[string]impl.Guest{
		"idle":                  with(guestOf(2, 9), func(g *impl.Guest) { g.Up = false }),
		"told of a room":        told,
		"at its end":            last,
		"new":                   {Slot: 2},
		"with all that it knew": with(guestAt(pcCut), func(g *impl.Guest) { g.Up, g.Snap = false, make([]uint64, deskAt(kindsHouse, 0)) }),
	} {
		w := kindsWorld(nil)
		w.Guests[1] = g
		want := copyWorld(w)
		want.Words[1] = wordOf(55, 0)
		for slot := -1; slot <= 4; slot++ {
			if got, many := seeReap(t, why, w, 1, slot); many != 0 || !sameWorld(got, want) {
				t.Errorf("%s, slot %d: %d rooms, %+v", why, slot, many, got)
			}
		}
	}
}

// Who is busy already comes to its own answer first: it has been asked in vain;
// and what it is told then counts, if that is BookMore.
func TestReapersThatAreBusy(t *testing.T) {
	busy := func(op impl.BookOp, steps int) impl.World {
		w := impl.WorldDo(kindsWorld(nil), ticksOf(5))
		w.Guests[1] = impl.GuestAsk(w.Guests[1], op)
		return impl.WorldDo(w, stepsOf(1, steps))
	}
	for _, s := range []struct {
		why     string
		op      impl.BookOp
		steps   int
		rooms   int
		answers int
		code    int
		of      int
	}{
		{"it takes", impl.BookOp{Kind: takes, A: 2}, 0, 0, 1, codeDone, 2},
		{"it takes, and has come far", impl.BookOp{Kind: takes, A: 2}, 130, 0, 1, codeDone, 2},
		{"it leaves", impl.BookOp{Kind: leaves}, 3, 0, 1, codeDone, 0},
		{"it gives what it has not", impl.BookOp{Kind: gives, A: 5}, 3, 0, 1, codeWhere, 5},
		{"it reaps the slot", impl.BookOp{Kind: reaps, A: 1}, 60, 3, 4, codeDone, 1},
		{"it reaps another one with rooms", impl.BookOp{Kind: reaps, A: 0}, 60, 4, 5, codeDone, 1},
		{"it reaps another one where nobody is", impl.BookOp{Kind: reaps, A: 3}, 60, 0, 1, codeNobody, 3},
	} {
		w := busy(s.op, s.steps)
		if !w.Guests[1].Busy {
			t.Fatalf("%s: it is not busy", s.why)
		}
		got, rooms := seeReap(t, s.why, w, 1, 1)
		g := got.Guests[1]
		if rooms != s.rooms || g.Count != 11+s.answers || g.Code != s.code || g.Op.A != s.of || g.Busy {
			t.Errorf("%s: %d rooms, %+v", s.why, rooms, g)
		}
		if s.rooms == 0 && !slices.Equal(modelOf(bookAsItStands(t, got.Words), 1), []int{2, 12, 24}) {
			t.Errorf("%s: slot 1 was reaped", s.why)
		}
	}
	// It stands at its end, with BookMore to be told.
	w := kindsWorld(words{2: doorOf(doorHeld, 2, 9, 20)})
	op := impl.BookOp{Kind: takes, Slot: 2, A: 1}
	w.Guests[1] = with(w.Guests[1], func(g *impl.Guest) { g.Busy, g.Pc, g.Op, g.Seq, g.Code = true, pcYield, op, 20, codeMore })
	if got, rooms := seeReap(t, "at its end", w, 1, 1); rooms != 4 || got.Guests[1].Count != 16 {
		t.Errorf("at its end: %d rooms, %+v", rooms, got.Guests[1])
	}
}

// Who is not answered by SoloMost steps is asked no more; what it was told last is
// no answer.
func TestReapersThatAreNeverAnswered(t *testing.T) {
	held := words{2: doorOf(doorHeld, 0, 1, 20), beatAt(kindsHouse, 0): wordOf(50, 2)}
	w := kindsWorld(held)
	w.Guests[1].Code = codeMore
	got, rooms := seeReap(t, "the door is never free", w, 1, 1)
	want := impl.WorldPlay(w, []impl.WorldEvent{ticksOf(5), asksOf(1, reaps, 1, 0), stepsOf(1, 377)})
	if rooms != 0 || !sameWorld(got, want) || !got.Guests[1].Busy || got.Guests[1].Count != 11 {
		t.Errorf("%d rooms, %+v\nnot\n%+v", rooms, got, want)
	}
	for why, w := range neverAnswered() {
		w.Guests[1].Code = codeMore
		for slot := range 3 {
			got, rooms := seeReap(t, why, w, 1, slot)
			if run, n := modelSoloRun(w, 1); rooms != 0 || n != 307 || !sameWorld(got, run) {
				t.Errorf("%s: %d rooms, %+v", why, rooms, got)
			}
		}
	}
}

// Who was answered a million times is asked no more: what it was told last is no
// answer.
func TestReapersOfManyCalls(t *testing.T) {
	for count, s := range map[int]struct{ rooms, answers int }{
		mostCount - 6: {4, 5}, mostCount - 5: {4, 5}, mostCount - 4: {4, 4}, mostCount - 3: {3, 3},
		mostCount - 1: {1, 1}, mostCount: {0, 0}, mostCount + 1: {0, 0}, math.MaxInt: {0, 0},
	} {
		w := kindsWorld(nil)
		w.Guests[1].Count, w.Guests[1].Code = count, codeMore
		got, rooms := seeReap(t, "many calls", w, 1, 0)
		if g := got.Guests[1]; rooms != s.rooms || g.Count != count+s.answers || g.Busy {
			t.Errorf("%d calls: %d rooms, %+v", count, rooms, g)
		}
	}
	// A number of calls that is none is one more behind each.
	w := kindsWorld(nil)
	w.Guests[1].Count = -3
	if got, rooms := seeReap(t, "below 0", w, 1, 0); rooms != 4 || got.Guests[1].Count != 2 {
		t.Errorf("below 0: %d rooms, %+v", rooms, got.Guests[1])
	}
}

// everMore is a world in which guest 1 reaps slot 0 for ever: slot 0 has been cut
// off and has a room, and no word of it turns any more. No events lead to it.
func everMore(door int, count int) impl.World {
	c := impl.PlatCfg{Slots: 2, Pages: 1, Lease: 1}
	b := modelOpen(2, 1)
	b.Pages[0], b.Heads[3], b.Owner[0] = 4, nil, 1
	b.In, b.Epoch = []int{cut, live}, []int{1, 1}
	w := standing(c, b, func(at int) int { return mostHalf })
	w[1], w[2] = 0, doorOf(doorFree, 0, 0, door)
	w[beatAt(c, 0)], w[beatAt(c, 1)] = wordOf(0, 1), wordOf(0, 1)
	g := impl.Guest{Up: true, Slot: 1, Epoch: 1, Count: count}
	return impl.World{Words: w, Guests: []impl.Guest{{Slot: 0, Epoch: 1}, g}}
}

// As many answers with BookMore as the house has words, which are 70, and one
// more; and that is all, however many more there could be.
func TestAsManyRoomsAsWords(t *testing.T) {
	for _, s := range []struct{ door, count, rooms, answers, code int }{
		{mostDoor - 69, 0, 69, 70, codeWorn},
		{mostDoor - 70, 0, 70, 71, codeWorn},
		{mostDoor - 71, 0, 71, 71, codeMore},
		{mostDoor - 72, 0, 71, 71, codeMore},
		{mostDoor - 500, 0, 71, 71, codeMore},
		{1, 0, 71, 71, codeMore},
		{1, mostCount - 69, 69, 69, codeMore},
		{1, mostCount - 70, 70, 70, codeMore},
		{1, mostCount - 71, 71, 71, codeMore},
		{1, mostCount - 72, 71, 71, codeMore},
	} {
		w := everMore(s.door, s.count)
		if len(w.Words) != 70 {
			t.Fatalf("%d words", len(w.Words))
		}
		got, rooms := seeReap(t, "ever more", w, 1, 0)
		g := got.Guests[1]
		if rooms != s.rooms || g.Count != s.count+s.answers || g.Code != s.code || g.Busy || stampOf(got.Words[2]) != s.door+s.rooms {
			t.Errorf("door %d, count %d: %d rooms, %+v", s.door, s.count, rooms, got)
		}
	}
}

// A reaping is a tick, and calls one behind the other.
func TestReapingsAreCalls(t *testing.T) {
	for _, s := range reapings() {
		w := kindsWorld(s.has)
		events := []impl.WorldEvent{ticksOf(5)}
		for range s.answers {
			events = append(events, asksOf(s.i, reaps, s.slot, 0), stepsOf(s.i, 377))
		}
		if got, _ := impl.SoloReap(w, s.i, s.slot); !sameWorld(got, impl.WorldPlay(w, events)) {
			t.Errorf("%s: %+v", s.why, got)
		}
	}
}

// In worlds that are thrown, of any guest and any slot; in half of them the words
// fit together, and who is idle is in.
func TestAnyReaping(t *testing.T) {
	onOneProcessor(t)
	d := dice(92)
	met := map[int]int{}
	for n := range 400 {
		w := d.anyWorld()
		c, _ := modelHouse(w.Words)
		if n%2 == 0 {
			d.fits(w)
		}
		for i := range w.Guests {
			_, rooms := seeReap(t, "thrown", w, i, d.below(c.Slots+2)-1)
			met[min(rooms, 4)]++
		}
	}
	if met[0] < 300 || met[1] < 10 || met[2] < 5 || met[4] < 3 {
		t.Error(met)
	}
}

// fits makes the words of a thrown world fit: who is in has beaten, the door is
// free and its number above all; and most guests are idle, and in where somebody
// is.
func (d *dice) fits(w impl.World) {
	c, _ := modelHouse(w.Words)
	w.Words[2] = doorOf(doorFree, 0, 0, 2000)
	in := 0
	for slot := range c.Slots {
		reg := valOf(w.Words[regAt(c, slot)])
		w.Words[beatAt(c, slot)] = wordOf(valOf(w.Words[1]), min(reg/4, mostEpoch))
		clear(w.Words[deskAt(c, slot) : deskAt(c, slot)+wordsOfDesk])
		if reg%4 == live {
			in = slot
		}
	}
	for i := range w.Guests {
		if d.below(5) > 0 {
			epoch := min(valOf(w.Words[regAt(c, in)])/4, mostEpoch)
			w.Guests[i] = impl.Guest{Up: true, Slot: in, Epoch: epoch, Code: codeMore}
		}
	}
}
