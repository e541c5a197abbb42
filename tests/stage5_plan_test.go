package tests

import (
	"math"
	"slices"
	"strconv"
	"testing"

	"loop.example/hostel/impl"
)

// mostPlan is the greatest stamp of a plan, in plain figures.
const mostPlan = 1000000000

// modelPlan is the changes that lead from one book to another one of its house.
func modelPlan(b impl.Book, x impl.Book, stamp int) []uint64 {
	var changes []uint64
	was := modelLay(b)
	for at, val := range modelLay(x) {
		if val != was[at] {
			changes = append(changes, changeOf(at, val, stamp))
		}
	}
	return changes
}

// planOf is PlanOf, with its memory looked at.
func planOf(t *testing.T, w []uint64, op impl.BookOp, stamp int) ([]uint64, int, int) {
	t.Helper()
	lent, asItWas := lendWords(w)
	got, code, val := impl.PlanOf(lent, op, stamp)
	answer := slices.Clone(got)
	spoilList(got)
	if !asItWas() {
		t.Fatalf("%v: the words that were handed in are not as they were: %v", op, w)
	}
	return answer, code, val
}

// seePlan holds PlanOf of a book's words, with desks and without, against the
// model; it is the changes and the code.
func seePlan(t *testing.T, b impl.Book, w []uint64, op impl.BookOp, stamp int) ([]uint64, int) {
	t.Helper()
	x, wantCode, wantVal := modelDo(b, op)
	want := modelPlan(b, x, stamp)
	for _, words := range [][]uint64{w, withoutDesks(houseOf(b, 1), w)} {
		got, code, val := planOf(t, words, op, stamp)
		if code != wantCode || val != wantVal || !slices.Equal(got, want) {
			t.Fatalf("%v of %v, %d words: %x, %d, %d, not %x, %d, %d", op, b, len(words), got, code, val, want, wantCode, wantVal)
		}
	}
	return want, wantCode
}

// noPlan asks for no changes, BookNone and 0.
func noPlan(t *testing.T, why string, w []uint64, op impl.BookOp, stamp int) {
	t.Helper()
	if got, code, val := planOf(t, w, op, stamp); len(got) != 0 || code != codeNone || val != 0 {
		t.Errorf("%s: %v: %x, %d, %d", why, op, got, code, val)
	}
}

// planned is a call, and what it must turn: addresses and values one behind the
// other.
type planned struct {
	op    impl.BookOp
	turns []int
	code  int
	val   int
}

func seePlanned(t *testing.T, b impl.Book, all []planned) {
	t.Helper()
	w := standing(houseOf(b, 5), b, stampThree)
	for _, p := range all {
		var want []uint64
		for i := 0; i < len(p.turns); i += 2 {
			want = append(want, changeOf(p.turns[i], p.turns[i+1], 44))
		}
		got, code, val := planOf(t, w, p.op, 44)
		if code != p.code || val != p.val || !slices.Equal(got, want) {
			t.Errorf("%v: %x, %d, %d, not %x, %d, %d", p.op, got, code, val, want, p.code, p.val)
		}
	}
}

// Each change by hand: calls of every kind, in a house of 4 slots and 6 pages:
// the register from 3 on, heads from 11, pages from 15, owners from 21, links
// from 69.
func TestChangesInFigures(t *testing.T) {
	seePlanned(t, bookOfKinds(), []planned{
		{impl.BookOp{Kind: enters, Slot: 3}, []int{6, 1 + 4*8}, codeDone, 8},
		{impl.BookOp{Kind: takes, Slot: 1, A: 1}, []int{11, 1, 21 + 7, 2, 69 + 7, 0}, codeDone, 7},
		{impl.BookOp{Kind: takes, Slot: 0, A: 2}, []int{12, 9, 21 + 14, 1, 69 + 14, 0}, codeDone, 14},
		{impl.BookOp{Kind: takes, Slot: 2, A: 3}, []int{13, 0, 21 + 20, 3}, codeDone, 20}, // its link was 0
		{impl.BookOp{Kind: gives, Slot: 0, A: 1}, []int{11, 2, 21 + 1, 0, 69 + 1, 8}, codeDone, 0},
		{impl.BookOp{Kind: gives, Slot: 0, A: 16}, []int{13, 0, 17, 0, 21 + 16, 0}, codeDone, 0},
		{impl.BookOp{Kind: gives, Slot: 1, A: 24}, []int{18, 0, 21 + 24, 0}, codeDone, 0}, // its head stays 0
		{impl.BookOp{Kind: gives, Slot: 0, A: 32}, []int{19, 0, 20, 0, 21 + 32, 0}, codeDone, 0},
		{impl.BookOp{Kind: hands, Slot: 0, A: 1, B: 2}, []int{21 + 1, 3}, codeDone, 0},
		{impl.BookOp{Kind: hands, Slot: 0, A: 32, B: 1}, []int{21 + 32, 2}, codeDone, 0},
		{impl.BookOp{Kind: hands, Slot: 0, A: 1, B: 0}, nil, codeDone, 0}, // to itself
		{impl.BookOp{Kind: leaves, Slot: 2}, []int{5, 0 + 4*9}, codeDone, 0},
		{impl.BookOp{Kind: reaps, Slot: 0, A: 1}, []int{11, 3, 21 + 2, 0, 69 + 2, 8}, codeMore, 2},
	})
	// The same in a house of 2 slots and 6 pages: pages from 11, owners from 17.
	seePlanned(t, bookOfRows(), []planned{
		{impl.BookOp{Kind: enters, Slot: 0}, []int{3, 1 + 4*1}, codeDone, 1},
		{impl.BookOp{Kind: takes, Slot: 1, A: 8}, []int{11, 4, 17, 2}, codeDone, 0},
		{impl.BookOp{Kind: takes, Slot: 1, A: 4}, []int{9, 5, 11, 3, 17, 2}, codeDone, 0},
		{impl.BookOp{Kind: gives, Slot: 1, A: 8}, []int{12, 0, 13, 0, 14, 0, 15, 0, 17 + 8, 0}, codeDone, 0},
		{impl.BookOp{Kind: takes, Slot: 1, A: 9}, nil, codeFull, 0},
	})
	seePlanned(t, guestsIn(2, 6), []planned{
		{impl.BookOp{Kind: takes, Slot: 1, A: 25}, []int{11, 12, 12, 7, 13, 7, 14, 7, 17, 2}, codeDone, 0},
		{impl.BookOp{Kind: takes, Slot: 0, A: 9}, []int{11, 10, 12, 7, 17, 1}, codeDone, 0},
	})
}

// wornBook is a book of all kinds of rooms in which nobody can come in at slot 3
// any more.
func wornBook() impl.Book {
	return turn(bookOfKinds(), func(b *impl.Book) { b.Epoch[3] = 4095 })
}

// Every code that the book says, with its number beside it; with all but two of
// them nothing is turned.
func TestCodesOfPlans(t *testing.T) {
	b := bookOfKinds()
	worn := wornBook()
	dead := turn(b, func(b *impl.Book) { b.In[2] = cut })
	for _, s := range []struct {
		b     impl.Book
		op    impl.BookOp
		code  int
		val   int
		turns int
	}{
		{b, impl.BookOp{Kind: enters, Slot: 3}, codeDone, 8, 1},
		{b, impl.BookOp{Kind: takes, Slot: 0, A: 1}, codeDone, 7, 3},
		{dead, impl.BookOp{Kind: reaps, Slot: 0, A: 2}, codeDone, 0, 1},
		{b, impl.BookOp{Kind: reaps, Slot: 0, A: 1}, codeMore, 2, 3},
		{b, impl.BookOp{Kind: takes, Slot: 0, A: 33}, codeSize, 0, 0},
		{b, impl.BookOp{Kind: takes, Slot: 0, A: 5}, codeFull, 0, 0},
		{b, impl.BookOp{Kind: gives, Slot: 0, A: 0}, codeWhere, 0, 0},
		{b, impl.BookOp{Kind: gives, Slot: 0, A: 2}, codeWhose, 0, 0},
		{b, impl.BookOp{Kind: hands, Slot: 0, A: 1, B: 3}, codeWhom, 0, 0},
		{b, impl.BookOp{Kind: enters, Slot: 1}, codeTaken, 0, 0},
		{b, impl.BookOp{Kind: leaves, Slot: 1}, codeKeeps, 0, 0},
		{b, impl.BookOp{Kind: reaps, Slot: 0, A: 2}, codeLives, 0, 0},
		{b, impl.BookOp{Kind: takes, Slot: 3, A: 1}, codeNobody, 0, 0},
		{worn, impl.BookOp{Kind: enters, Slot: 3}, codeWorn, 0, 0},
		{b, impl.BookOp{Kind: 7, Slot: 0}, codeNone, 0, 0},
		{b, impl.BookOp{Kind: takes, Slot: 4, A: 1}, codeNone, 0, 0},
		{b, impl.BookOp{Kind: takes, Slot: -1, A: 1}, codeNone, 0, 0},
	} {
		w := standing(houseOf(s.b, 9), s.b, stampThree)
		got, code, val := planOf(t, w, s.op, 7)
		if code != s.code || val != s.val || len(got) != s.turns {
			t.Errorf("%v: %x, %d, %d, not %d changes, %d, %d", s.op, got, code, val, s.turns, s.code, s.val)
		}
	}
}

// Numbers of calls far from all that there is.
func TestPlansOfWhatIsNone(t *testing.T) {
	b := bookOfKinds()
	w := standing(houseOf(b, 2), b, stampThree)
	for _, n := range append(numbersThatAreNone(4), numbersThatAreNone(48)...) {
		for kind := range 8 {
			seePlan(t, b, w, impl.BookOp{Kind: kind, Slot: n, A: 1, B: 1}, 5)
			seePlan(t, b, w, impl.BookOp{Kind: kind, Slot: 0, A: n, B: 1}, 5)
			seePlan(t, b, w, impl.BookOp{Kind: kind, Slot: 0, A: 1, B: n}, 5)
		}
		seePlan(t, b, w, impl.BookOp{Kind: n, Slot: 0, A: 1, B: 1}, 5)
	}
}

// seeChanges asks of changes what is so of any plan: they ascend by address, each
// turns a value, none of them the front of the house, a beat or a desk, and they
// are not too many.
func seeChanges(t *testing.T, w []uint64, c impl.PlatCfg, list []uint64, stamp int) {
	t.Helper()
	if len(list) > mostChanges {
		t.Fatalf("%d changes: %x", len(list), list)
	}
	last := doorAt
	for _, change := range list {
		at, val := impl.CellEntryOf(change)
		if at <= last || at >= deskAt(c, 0) || stampOf(change) != stamp || valOf(w[at]) == val {
			t.Fatalf("%v: %x is no change: %x", c, change, list)
		}
		if between(at, beatAt(c, 0), beatAt(c, c.Slots)-1) {
			t.Fatalf("%v: %x turns a beat", c, change)
		}
		last = at
	}
}

// Every call of books of all houses, with desks and without, held against the
// model; all codes come about.
func TestPlansOfManyBooks(t *testing.T) {
	t.Parallel()
	codes := map[int]int{}
	for i, b := range append(booksAsked(300, 60), wornBook()) {
		c := houseOf(b, 1+i%mostLease)
		w := standing(c, b, stampThree)
		everyOp(b, func(op impl.BookOp) {
			list, code := seePlan(t, b, w, op, 4+i)
			codes[code]++
			seeChanges(t, w, c, list, 4+i)
			if len(list) > 0 && code != codeDone && code != codeMore {
				t.Fatalf("%v of %v: code %d, and %x", op, b, code, list)
			}
		})
	}
	for _, code := range []int{codeDone, codeSize, codeFull, codeWhere, codeWhose, codeWhom, codeTaken, codeKeeps, codeLives, codeNobody, codeMore, codeWorn, codeNone} {
		if codes[code] == 0 {
			t.Errorf("no call was answered with %d", code)
		}
	}
}

// The stamps of the words, the clock, the door, the beats and the desks are no
// matter; nor is what is done and not carried out, as a plan goes by the words
// as they are.
func TestPlansGoByTheWordsAsTheyAre(t *testing.T) {
	d := dice(5)
	for i, b := range booksAsked(300, 30) {
		c := houseOf(b, 1+i%mostLease)
		w := standing(c, b, func(int) int { return d.below(mostHalf) })
		for at := range w {
			beat := between(at, beatAt(c, 0), beatAt(c, c.Slots)-1)
			if at == clockAt || at == doorAt || beat || at >= deskAt(c, 0) {
				w[at] = wordOf(d.below(mostHalf), d.below(mostHalf))
			}
		}
		for range 5 {
			seePlan(t, b, w, d.anyOp(b), 1+d.below(mostPlan))
		}
	}
	op := impl.BookOp{Kind: takes, Slot: 1, A: 2}
	got, code, val := planOf(t, takingByDesk(8), op, 9)
	want := modelPlan(deskBook(), taken(), 9)
	if code != codeDone || val != 2 || !slices.Equal(got, want) {
		t.Errorf("what is done counts: %x, %d, %d, not %x", got, code, val, want)
	}
}

// The stamp of a plan.
func TestStampsOfPlans(t *testing.T) {
	b := bookOfKinds()
	w := standing(houseOf(b, 5), b, stampThree)
	op := impl.BookOp{Kind: takes, Slot: 0, A: 2}
	for _, stamp := range []int{1, 2, 3, 4, magic, 1000001, mostPlan - 1, mostPlan} {
		list, code := seePlan(t, b, w, op, stamp)
		if code != codeDone || len(list) != 3 || stampOf(list[0]) != stamp {
			t.Errorf("stamp %d: %x, %d", stamp, list, code)
		}
	}
	wrong := []int{math.MinInt, -mostPlan, -1, 0, mostPlan + 1, mostHalf, mostHalf + 1, mostHalf + 2, 1<<32 + mostPlan, 1 << 62, math.MaxInt}
	for _, stamp := range wrong {
		why := "stamp " + strconv.Itoa(stamp)
		noPlan(t, why, w, op, stamp)
		noPlan(t, why, withoutDesks(houseOf(b, 5), w), op, stamp)
		noPlan(t, why+", a call with a code", w, impl.BookOp{Kind: takes, Slot: 3, A: 2}, stamp)
	}
}

// Words that are not those of a house: of wrong lengths, and with wrong first
// words.
func TestNoPlanOfWordsOfNoHouse(t *testing.T) {
	c := deskHouse
	op := impl.BookOp{Kind: takes, Slot: 1, A: 2}
	whole := append(standing(c, deskBook(), stampThree), make([]uint64, 25)...)
	for n := range whole {
		if n == sizeOf(c) || n == deskAt(c, 0) {
			seePlan(t, deskBook(), whole[:sizeOf(c)], op, 6)
			continue
		}
		noPlan(t, strconv.Itoa(n)+" words", whole[:n], op, 6)
	}
	noPlan(t, "no words", nil, op, 6)
	noPlan(t, "no words and no call", nil, impl.BookOp{}, 0)
	for _, first := range wrongFirstWords(c) {
		w := standing(c, deskBook(), stampThree)
		w[0] = first
		noPlan(t, "another first word", w, op, 6)
		noPlan(t, "another first word, no desks", withoutDesks(c, w), op, 6)
	}
}

// Words of a house that stand for no book, whatever is called.
func TestNoPlanOfWordsThatAreNoBook(t *testing.T) {
	b := bookOfKinds()
	c := houseOf(b, 5)
	for name, how := range turnedWords(c) {
		w := standing(c, b, stampThree)
		for at, val := range how {
			w[at] = wordOf(val, 3)
		}
		for kind := range 8 {
			op := impl.BookOp{Kind: kind, Slot: 0, A: 1, B: 1}
			noPlan(t, name, w, op, 9)
			noPlan(t, name, withoutDesks(c, w), op, 9)
		}
	}
}

// The first room of a page is taken: its head, its page, its owner, and a link
// for each room that has one behind it, but for the one that is taken.
func TestAPageIsOpened(t *testing.T) {
	for slots := 1; slots <= mostSlots; slots++ {
		for pages := 1; pages <= mostPages; pages++ {
			b := guestsIn(slots, pages)
			w := standing(houseOf(b, 3), b, stampThree)
			for units, turns := range map[int]int{1: 9, 2: 5, 3: 3, 4: 3, 5: 2, 8: 2} {
				list, code := seePlan(t, b, w, impl.BookOp{Kind: takes, Slot: slots - 1, A: units}, 4)
				if code != codeDone || len(list) != turns {
					t.Errorf("%d slots, %d pages, %d units: %d, %x", slots, pages, units, code, list)
				}
			}
		}
	}
}

// scattered is a book of six pages of one kind, with a room taken on each; the
// free rooms of the last page stand between those of others, no two side by side.
func scattered() impl.Book {
	b := guestsIn(4, 6)
	for page := range 6 {
		b.Pages[page] = 1
		b.Owner[8*page] = 1 + page%4
	}
	for n := 1; n < 8; n++ {
		b.Heads[0] = append(b.Heads[0], n, 40+n)
	}
	for unit := 9; unit < 40; unit++ {
		if unit%8 != 0 {
			b.Heads[0] = append(b.Heads[0], unit)
		}
	}
	return b
}

// The last room of a page is given back, and all links to and from its rooms
// turn: the most words that any call turns.
func TestAPageIsClosed(t *testing.T) {
	b := scattered()
	w := standing(houseOf(b, 3), b, stampThree)
	list, code := seePlan(t, b, w, impl.BookOp{Kind: gives, Slot: 1, A: 40}, 4)
	if !modelOk(b) || code != codeDone || len(list) != 16 {
		t.Errorf("between others: %d, %d changes: %x", code, len(list), list)
	}
	// Reaped likewise: room 8 is another's, so that room 40 is the first one.
	dead := turn(b, func(b *impl.Book) { b.Owner[8], b.In[1] = 1, cut })
	w = standing(houseOf(b, 3), dead, stampThree)
	list, code = seePlan(t, dead, w, impl.BookOp{Kind: reaps, Slot: 2, A: 1}, 4)
	if !modelOk(dead) || code != codeMore || len(list) != 16 {
		t.Errorf("reaped: %d, %d changes: %x", code, len(list), list)
	}
	// One of them stands first: the head turns in the place of a link.
	front := turn(b, func(b *impl.Book) { b.Heads[0] = append(b.Heads[0][1:], 1) })
	w = standing(houseOf(b, 3), front, stampThree)
	list, code = seePlan(t, front, w, impl.BookOp{Kind: gives, Slot: 1, A: 40}, 4)
	if !modelOk(front) || code != codeDone || len(list) != 16 {
		t.Errorf("first of all: %d, %d changes: %x", code, len(list), list)
	}
	// Alone, its rooms lead from one to the next: the last link is 0 already.
	alone := guestsIn(1, 1)
	alone.Pages[0], alone.Owner[3] = 1, 1
	alone.Heads[0] = []int{7, 0, 2, 1, 4, 6, 5}
	w = standing(houseOf(alone, 3), alone, stampThree)
	list, code = seePlan(t, alone, w, impl.BookOp{Kind: gives, Slot: 0, A: 3}, 4)
	if code != codeDone || len(list) != 9 {
		t.Errorf("alone: %d, %d changes: %x", code, len(list), list)
	}
}

// Free rooms in orders that are thrown, and every page's last room given back:
// never too many changes.
func TestPagesClosedInAnyOrder(t *testing.T) {
	d := dice(20)
	most := 0
	for range 400 {
		b := scattered()
		for i := len(b.Heads[0]) - 1; i > 0; i-- {
			j := d.below(i + 1)
			b.Heads[0][i], b.Heads[0][j] = b.Heads[0][j], b.Heads[0][i]
		}
		c := houseOf(b, 1+d.below(mostLease))
		w := standing(c, b, stampThree)
		for page := range 6 {
			list, _ := seePlan(t, b, w, impl.BookOp{Kind: gives, Slot: page % 4, A: 8 * page}, 4)
			seeChanges(t, w, c, list, 4)
			most = max(most, len(list))
		}
	}
	if most != 16 {
		t.Error("the most words that turned:", most)
	}
}
