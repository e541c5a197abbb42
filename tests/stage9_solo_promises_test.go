package tests

import (
	"runtime"
	"slices"
	"sync"
	"testing"

	"loop.example/hostel/impl"
)

// lonely asks for P21 and P22 of worlds, and counts what it has met: by 1000 and
// the place from which a guest went on, by 100 and its answer, by 500 and how
// many rooms were reaped, and by 600 and the answer of who reaped none.
type lonely struct {
	met  map[int]int
	most int
}

func newLonely() *lonely { return &lonely{met: map[int]int{}} }

// behindAlone is what there is behind a guest that was alone, held against the
// events that it is: everybody else is as it was, and the true book is that behind
// what has happened, which is answered.
func behindAlone(t *testing.T, w impl.World, i int, x impl.World, events []impl.WorldEvent) (impl.Book, impl.Book, []impl.TaleItem) {
	t.Helper()
	if !sameWorld(x, impl.WorldPlay(w, events)) {
		t.Fatalf("guest %d alone: %+v\nnot what %+v leads to", i, x, events)
	}
	for k, g := range w.Guests {
		if k != i && !sameGuest(x.Guests[k], g) {
			t.Fatalf("guest %d was alone, and guest %d is another: %+v", i, k, x.Guests[k])
		}
	}
	was, ok := impl.WorldBook(w)
	b, stands := impl.WorldBook(x)
	list := impl.TalePlay(w, events)
	told, said := impl.TaleBook(was, list)
	if !ok || !stands || !said || !alike(told, b) {
		t.Fatalf("guest %d alone: %v, %v, %v: has happened %+v: %+v\nnot %+v", i, ok, stands, said, list, b, told)
	}
	return was, b, list
}

// ends asks for P21 of a guest that is up and busy.
func (l *lonely) ends(t *testing.T, w impl.World, i int) impl.World {
	t.Helper()
	c, _ := modelHouse(w.Words)
	x, n := impl.SoloRun(w, i)
	was, g := w.Guests[i], x.Guests[i]
	if g.Busy || g.Count != was.Count+1 || !between(n, 1, modelMost(c)) {
		t.Fatalf("guest %d, from %d on: no answer by %d steps: %+v\nin %+v", i, was.Pc, n, g, x.Words)
	}
	_, _, list := behindAlone(t, w, i, x, []impl.WorldEvent{ticksOf(c.Lease + 1), stepsOf(i, n)})
	calls := impl.TaleOf(list, i)
	if len(calls) > 1 || len(calls) == 1 && (calls[0].Op != g.Op || calls[0].Code != g.Code || calls[0].Val != g.Val) {
		t.Fatalf("guest %d was told %d, %d, and has happened %+v", i, g.Code, g.Val, calls)
	}
	l.met[1000+was.Pc]++
	l.met[100+g.Code]++
	l.most = max(l.most, n-deskAt(c, 0))
	return x
}

// asksAlone lets an idle guest ask for something, and asks for P21 then.
func (l *lonely) asksAlone(t *testing.T, w impl.World, i int, op impl.BookOp) impl.World {
	t.Helper()
	w = impl.WorldDo(w, asksOf(i, op.Kind, op.A, op.B))
	if !w.Guests[i].Busy {
		return w
	}
	return l.ends(t, w, i)
}

// reaps asks for P22 of a guest that is up and idle, and in as far as it knows;
// and that it gets nothing, where the slot is its own, nobody is there, or it is
// not in any more.
func (l *lonely) reaps(t *testing.T, w impl.World, i int, slot int) impl.World {
	t.Helper()
	c, _ := modelHouse(w.Words)
	x, many := impl.SoloReap(w, i, slot)
	events := []impl.WorldEvent{ticksOf(c.Lease + 1)}
	for range many + 1 {
		events = append(events, asksOf(i, reaps, slot, 0), stepsOf(i, modelMost(c)))
	}
	was, b, list := behindAlone(t, w, i, x, events)
	g := w.Guests[i]
	to := x.Guests[i]
	comes := was.In[g.Slot] == live && was.Epoch[g.Slot] == g.Epoch && slot != g.Slot && was.In[slot] != out
	if to.Busy || to.Count != g.Count+many+1 || comes != (to.Code == codeDone) || !comes && many > 0 {
		t.Fatalf("guest %d reaps slot %d: %d rooms, %+v\nahead of it %+v", i, slot, many, to, was)
	}
	l.seeLost(t, w, i, slot, was, b)
	if !comes {
		l.met[600+to.Code]++
		return x
	}
	var rooms []int
	for _, item := range impl.TaleOf(list, i) {
		if item.Code == codeMore {
			rooms = append(rooms, item.Val)
		}
	}
	want := modelOf(was, slot)
	if many != len(want) || !slices.Equal(rooms, want) || b.In[slot] != out || len(modelOf(b, slot)) > 0 {
		t.Fatalf("guest %d reaps slot %d: %d rooms, %v, of %v: %+v", i, slot, many, rooms, want, b)
	}
	l.met[500+many]++
	return x
}

// seeLost asks that nobody but the slot that was reaped has lost anything: all
// others have the rooms that they had, and are in as they were, but for who held
// the door, and was cut off.
func (l *lonely) seeLost(t *testing.T, w impl.World, i int, slot int, was impl.Book, b impl.Book) {
	t.Helper()
	state, holder, _ := impl.CellDoorOf(w.Words[2])
	for other, in := range was.In {
		if other == slot {
			continue
		}
		cutOff := state == doorHeld && holder == other && in == live && b.In[other] == cut
		if b.In[other] != in && !cutOff || !slices.Equal(modelOf(b, other), modelOf(was, other)) {
			t.Fatalf("guest %d reaps slot %d, and slot %d has lost: %+v, behind %+v", i, slot, other, b, was)
		}
		for _, at := range modelOf(was, other) {
			if modelRoom(b, at) != modelRoom(was, at) {
				t.Fatalf("guest %d reaps slot %d, and room %d of slot %d is another: %+v, behind %+v", i, slot, at, other, b, was)
			}
		}
	}
	if !slices.Equal(b.Epoch, was.Epoch) {
		t.Fatalf("guest %d reaps slot %d: %v, behind %v", i, slot, b.Epoch, was.Epoch)
	}
}

// anybody is alone: guests that are up go on, or reap.
func (l *lonely) anybody(t *testing.T, w impl.World, i int, slot int) {
	t.Helper()
	switch g := w.Guests[i]; {
	case g.Up && g.Busy:
		l.ends(t, w, i)
	case g.Up && g.Epoch > 0:
		l.reaps(t, w, i, slot)
	}
}

// lets lets something happen of which nothing else is asked here.
func (x *chronicle) lets(e impl.WorldEvent) {
	x.w = impl.WorldDo(x.w, e)
	x.b, _ = impl.WorldBook(x.w)
	x.fromW, x.fromB = x.w, x.b
}

// P21 and P22 on walks of guests that go on at single words, and die: behind each
// event one of them is alone.
func TestAloneFromWalks(t *testing.T) {
	onOneProcessor(t)
	l := newLonely()
	for n := range 12 {
		d := dice(940 + n)
		c := impl.PlatCfg{Slots: 1 + n%mostSlots, Pages: 1 + n/mostSlots%3, Lease: 1 + d.below(4)}
		x := chronicleOf(t, impl.WorldOpen(c))
		for range 3 {
			for range 300 {
				x.lets(x.word(&d))
				l.anybody(t, x.w, d.below(len(x.w.Guests)), d.below(c.Slots))
			}
			x.newcomers(t, &d)
		}
	}
	for _, what := range []int{100 + codeDone, 100 + codeMore, 100 + codeFenced, 500, 501, 502, 600 + codeLives, 600 + codeNobody} {
		if l.met[what] == 0 {
			t.Errorf("it never came to %d: %v", what, l.met)
		}
	}
}

// behindOne is what may come behind a world in which guest 0 has stopped, or is
// dead: guest 1 makes a call and reaps slot 0, guest 2 comes in there, and guest 0
// wakes up behind that, each alone.
func (l *lonely) behindOne(t *testing.T, w impl.World, op impl.BookOp) {
	t.Helper()
	if w.Guests[0].Up && w.Guests[0].Busy {
		l.ends(t, w, 0)
	}
	w = l.asksAlone(t, w, 1, op)
	if g := w.Guests[0]; g.Up && g.Busy {
		l.ends(t, w, 0)
	}
	w = l.reaps(t, w, 1, 0)
	if g := w.Guests[0]; g.Up && g.Busy {
		l.ends(t, w, 0)
	}
	b, _ := impl.WorldBook(w)
	w = l.asksAlone(t, w, 2, impl.BookOp{Kind: enters})
	w = l.asksAlone(t, w, 2, impl.BookOp{Kind: takes, A: 2})
	if g := w.Guests[2]; (g.Code == codeDone) != (b.In[0] == out) {
		t.Fatalf("slot 0 is free again, or is not: %+v: %+v", b, g)
	}
	if g := w.Guests[0]; g.Up && g.Busy {
		w = l.ends(t, w, 0)
	}
	l.reaps(t, w, 2, 1)
}

// P21 and P22: at each word of each call a guest stops, or dies.
func TestAloneAtEachWord(t *testing.T) {
	onOneProcessor(t)
	calls := []impl.BookOp{
		{Kind: takes, A: 2}, {Kind: gives, A: 0}, {Kind: hands, A: 0, B: 1}, {Kind: leaves}, {Kind: reaps, A: 1}, {Kind: reaps, A: 0}, {Kind: takes, A: 9},
	}
	others := []impl.BookOp{{Kind: takes, A: 2}, {Kind: gives, A: 2}, {Kind: reaps, A: 0}, {Kind: hands, A: 2, B: 0}}
	l := newLonely()
	for which, op := range calls {
		w := twoIn(t, op).w
		if op.Kind == reaps {
			w = impl.WorldDo(w, ticksOf(4))
		}
		for n := 0; w.Guests[0].Busy; n++ {
			if w.Guests[0].Pc != pcSee || n%4 == 0 {
				for k := range 2 {
					x := w
					if (n+k)%2 == 0 {
						x = impl.WorldDo(w, diesOf(0))
					}
					l.behindOne(t, x, others[(n+which+2*k)%len(others)])
				}
			}
			w = impl.WorldDo(w, stepsOf(0, 1))
		}
	}
	for pc := pcBeat; pc <= pcYield; pc++ {
		comes := pc != pcNow && pc != pcSign && pc != pcMark && pc != pcJoin && !between(pc, pcWatch, pcEntry)
		if l.met[1000+pc] == 0 && comes {
			t.Errorf("nobody was alone at %d: %v", pc, l.met)
		}
	}
	for _, what := range []int{100 + codeDone, 100 + codeMore, 100 + codeFenced, 500, 501, 502} {
		if l.met[what] == 0 {
			t.Errorf("it never came to %d: %v", what, l.met)
		}
	}
}

// threeIn is a world in which three guests are in with a room of two units each,
// and the first one is asked for a call.
func threeIn(t *testing.T, op impl.BookOp) impl.World {
	t.Helper()
	var events []impl.WorldEvent
	for i := range 3 {
		events = append(events, bornAt(i), asksOf(i, enters, 0, 0), stepsOf(i, 400), asksOf(i, takes, 2, 0), stepsOf(i, 400))
	}
	w := impl.WorldPlay(impl.WorldOpen(impl.PlatCfg{Slots: 3, Pages: 1, Lease: 2}), append(events, asksOf(0, op.Kind, op.A, op.B)))
	if b, ok := impl.WorldBook(w); !ok || !slices.Equal(b.Owner, []int{1, 0, 2, 0, 3, 0, 0, 0}) {
		t.Fatalf("not three in: %+v", b)
	}
	return w
}

// stops are the words at which a guest that goes on stops, one behind the other:
// all but most of those that it only sees.
func stops(w impl.World, i int, see func(n int, w impl.World)) {
	for n := 0; w.Guests[i].Busy && n < 200; n++ {
		if w.Guests[i].Pc != pcSee || n%16 == 0 {
			see(n, w)
		}
		w = impl.WorldDo(w, stepsOf(i, 1))
	}
}

// P21 and P22: two stop or die, one at each word of its call, and the other one at
// each word of its own, of cutting the first one off, and of carrying out what
// that has done; and the third one is alone.
func TestAloneBehindTwo(t *testing.T) {
	onOneProcessor(t)
	l := newLonely()
	pairs := [][2]impl.BookOp{
		{{Kind: takes, A: 2}, {Kind: gives, A: 2}},
		{{Kind: gives, A: 0}, {Kind: reaps, A: 0}},
		{{Kind: hands, A: 0, B: 2}, {Kind: takes, A: 2}},
	}
	thirds := []impl.BookOp{{Kind: takes, A: 2}, {Kind: gives, A: 4}, {Kind: hands, A: 4, B: 0}, {Kind: leaves}, {Kind: reaps, A: 0}}
	for which, pair := range pairs {
		stops(threeIn(t, pair[0]), 0, func(n int, w impl.World) {
			if n%3 != which && w.Guests[0].Pc < pcTurn {
				return
			}
			w = impl.WorldPlay(w, []impl.WorldEvent{ticksOf(n % 2 * 3), asksOf(1, pair[1].Kind, pair[1].A, pair[1].B)})
			stops(w, 1, func(m int, w impl.World) {
				pc := w.Guests[1].Pc
				if (n+m)%3 > 0 && pc != pcCut && !between(pc, pcWatch, pcBreak) {
					return
				}
				dead := (n/2 + m/3) % 4
				for i := range 2 {
					if dead>>i%2 == 1 {
						w = impl.WorldDo(w, diesOf(i))
					}
				}
				l.behindTwo(t, w, thirds[(n+m)/3%len(thirds)], n+m)
			})
		})
	}
	for pc := pcBeat; pc <= pcYield; pc++ {
		if l.met[1000+pc] == 0 && !between(pc, pcReg, pcJoin) && pc != pcYield {
			t.Errorf("nobody was alone at %d: %v", pc, l.met)
		}
	}
	for _, what := range []int{100 + codeDone, 100 + codeMore, 100 + codeFenced, 500, 501, 502} {
		if l.met[what] == 0 {
			t.Errorf("it never came to %d: %v", what, l.met)
		}
	}
}

// behindTwo is what may come behind a world in which two have stopped.
func (l *lonely) behindTwo(t *testing.T, w impl.World, op impl.BookOp, n int) {
	t.Helper()
	for i := range 2 {
		l.anybody(t, w, i, 1-i)
	}
	w = l.asksAlone(t, w, 2, op)
	for i := range 2 {
		l.anybody(t, w, i, 2)
	}
	if w.Guests[2].Epoch == 0 {
		w = l.asksAlone(t, w, 2, impl.BookOp{Kind: enters})
	}
	w = l.reaps(t, w, 2, n%2)
	w = l.reaps(t, w, 2, 1-n%2)
	for i := range 2 {
		l.anybody(t, w, i, 2)
	}
}

// Just within the bounds of both promises: the clock is a lease and 1 below its
// end, and the door's stamp and all Counts are 1000 below 1000000.
func TestAloneAtTheBounds(t *testing.T) {
	onOneProcessor(t)
	l := newLonely()
	for n := range 8 {
		d := dice(960 + n)
		c := impl.PlatCfg{Slots: 2 + n%3, Pages: 1 + n%2, Lease: 1 + d.below(mostLease)}
		w := impl.WorldOpen(c)
		w.Words[1] = wordOf(mostVal-c.Lease-1, 0)
		w.Words[2] = doorOf(doorFree, 0, 0, mostDoor-1010)
		x := chronicleOf(t, w)
		for range 400 {
			e := x.word(&d)
			if e.Kind == ticksKind {
				e.N = 0
			}
			x.lets(e)
			for i := range x.w.Guests {
				x.w.Guests[i].Count = mostCount - 1000
			}
			if stampOf(x.w.Words[2]) > mostDoor-1000 {
				break
			}
			l.anybody(t, x.w, d.below(len(x.w.Guests)), d.below(c.Slots))
		}
	}
	if l.met[100+codeDone] < 100 || l.met[500]+l.met[501]+l.met[502] < 5 || l.met[100+codeWorn] > 0 {
		t.Error(l.met)
	}
}

// P22 of as many rooms as there are: each unit is a room of slot 0, which has died
// with the last one in its hand; and of all pages in one room and one page.
func TestAllRoomsComeBack(t *testing.T) {
	onOneProcessor(t)
	c := impl.PlatCfg{Slots: 3, Pages: 6, Lease: 3}
	in := []impl.WorldEvent{bornAt(0), asksOf(0, enters, 0, 0), stepsOf(0, 400), bornAt(2), asksOf(1, enters, 0, 0), stepsOf(1, 400)}
	open := impl.WorldPlay(impl.WorldOpen(c), in)
	l := newLonely()
	for units, rooms := range map[int]int{1: 48, 3: 12, 8: 6, 16: 3, 32: 1} {
		w := open
		for range rooms - 1 {
			w = impl.WorldPlay(w, []impl.WorldEvent{asksOf(0, takes, units, 0), stepsOf(0, 400)})
		}
		w = impl.WorldDo(w, asksOf(0, takes, units, 0))
		has := rooms - 1
		for n := 0; has < rooms; n++ {
			x, did := impl.WorldOne(w, 0)
			if did == didTurn {
				has++
				l.seeAll(t, impl.WorldDo(w, diesOf(0)), rooms-1)
				l.seeAll(t, impl.WorldDo(x, diesOf(0)), rooms)
			}
			w = x
		}
		l.seeAll(t, impl.WorldPlay(w, []impl.WorldEvent{stepsOf(0, 3), diesOf(0)}), rooms)
		l.seeAll(t, impl.WorldPlay(w, []impl.WorldEvent{stepsOf(0, 400), diesOf(0)}), rooms)
	}
}

// seeAll asks that slot 0 has so many rooms, and that the house is empty behind
// its being reaped.
func (l *lonely) seeAll(t *testing.T, w impl.World, rooms int) {
	t.Helper()
	x, many := impl.SoloReap(w, 1, 0)
	if many != rooms {
		t.Fatalf("%d rooms, not %d", many, rooms)
	}
	b, ok := impl.WorldBook(l.reaps(t, w, 1, 0))
	if y, stands := impl.WorldBook(x); !ok || !stands || !alike(b, y) || slices.Max(b.Pages) != empty {
		t.Fatalf("%d rooms: %+v", rooms, b)
	}
}

// The same answer each time, by many at the same time, and on one processor; and
// nobody is left behind.
func TestTheSameAloneEachTime(t *testing.T) {
	w, _ := crowded(t)
	before := runtime.NumGoroutine()
	for i := range w.Guests {
		run, steps := seeRun(t, "a crowd", w, i)
		reap, rooms := seeReap(t, "a crowd", run, i, 3)
		var all sync.WaitGroup
		same := make([]bool, 20)
		for n := range same {
			all.Add(1)
			go func() {
				defer all.Done()
				x, many := impl.SoloRun(w, i)
				y, more := impl.SoloReap(run, i, 3)
				same[n] = sameWorld(x, run) && many == steps && sameWorld(y, reap) && more == rooms
			}()
		}
		all.Wait()
		if slices.Contains(same, false) {
			t.Errorf("guest %d: not the same, at the same time", i)
		}
	}
	defer runtime.GOMAXPROCS(runtime.GOMAXPROCS(1))
	for i := -1; i <= mostGuests; i++ {
		seeRun(t, "on one processor", w, i)
		seeReap(t, "on one processor", w, i, 3)
		impl.SoloRun(impl.World{}, i)
		impl.SoloReap(impl.World{}, i, 1)
	}
	if !settled(before) {
		t.Errorf("%d goroutines, and there were %d", runtime.NumGoroutine(), before)
	}
}
