package tests

import (
	"math"
	"slices"
	"testing"

	"loop.example/hostel/impl"
)

func TestLimitsOfBooks(t *testing.T) {
	got := []int{impl.BookEnters, impl.BookTakes, impl.BookGives, impl.BookHands, impl.BookLeaves, impl.BookReaps}
	if !slices.Equal(got, []int{1, 2, 3, 4, 5, 6}) {
		t.Error(got)
	}
	got = []int{impl.BookDone, impl.BookSize, impl.BookFull, impl.BookWhere, impl.BookWhose, impl.BookWhom, impl.BookTaken,
		impl.BookKeeps, impl.BookLives, impl.BookNobody, impl.BookMore, impl.BookFenced, impl.BookWorn, impl.BookNone}
	if !slices.Equal(got, []int{0, 1, 2, 3, 4, 5, 6, 7, 8, 9, 10, 11, 12, 13}) {
		t.Error(got)
	}
	got = []int{impl.BookEmpty, impl.BookRest, impl.BookLarge, impl.BookMost}
	if !slices.Equal(got, []int{0, 7, 8, 32}) {
		t.Error(got)
	}
}

func TestBookOfAnEmptyHouse(t *testing.T) {
	for _, c := range everyHouse() {
		b := impl.BookOpen(c)
		if !alike(b, modelOpen(c.Slots, c.Pages)) || !impl.BookOk(b) {
			t.Errorf("%v: %v", c, b)
		}
		if !spoil(b) || !alike(impl.BookOpen(c), modelOpen(c.Slots, c.Pages)) {
			t.Errorf("%v: books share memory", c)
		}
	}
	for _, c := range wrongHouses() {
		if b := impl.BookOpen(c); !isNothing(b) {
			t.Errorf("%v: %v", c, b)
		}
	}
}

func TestKindsOfRooms(t *testing.T) {
	edges := map[int]int{0: -1, 1: 0, 2: 1, 3: 2, 4: 2, 5: 3, 8: 3, 9: 4, 16: 4, 17: 4, 32: 4, 33: -1, -1: -1, math.MinInt: -1, math.MaxInt: -1}
	for units, want := range edges {
		if got := impl.BookKind(units); got != want {
			t.Errorf("%d units: kind %d, not %d", units, got, want)
		}
	}
	for units := -100; units <= 100; units++ {
		if got := impl.BookKind(units); got != modelKind(units) {
			t.Errorf("%d units: kind %d, not %d", units, got, modelKind(units))
		}
	}
}

// seeSame asks both ways round, with spare room behind the lists that is not
// the same.
func seeSame(t *testing.T, why string, a impl.Book, b impl.Book, want bool) {
	t.Helper()
	lentA, aWas := lend(a)
	if impl.BookSame(lentA, b) != want || impl.BookSame(b, lentA) != want {
		t.Errorf("%s: same is %v: %v and %v", why, !want, a, b)
	}
	if !aWas() {
		t.Errorf("%s: a book was turned", why)
	}
}

func TestSameBooks(t *testing.T) {
	odd := impl.Book{Slots: -5, Pages: []int{99}, Heads: [4][]int{{1}, {2}, {3}, {4}}, Owner: []int{-1, 7}, In: []int{8}, Epoch: []int{9, 9, 9}}
	for _, b := range []impl.Book{{}, bookOfKinds(), bookOfRows(), bookOfThree(), odd} {
		seeSame(t, "itself", b, b, true)
		seeSame(t, "a copy", b, copyOf(b), true)
		for _, slots := range []int{b.Slots - 1, b.Slots + 1, math.MinInt, math.MaxInt} {
			seeSame(t, "Slots", b, turn(b, func(x *impl.Book) { x.Slots = slots }), false)
		}
		for which, name := range namesOfLists {
			list := *listsOf(&b)[which]
			with := func(list []int) impl.Book { return turn(b, func(x *impl.Book) { *listsOf(x)[which] = list }) }
			seeSame(t, name+", one more", b, with(append(slices.Clone(list), 0)), false)
			seeSame(t, name+", one more ahead", b, with(append([]int{0}, list...)), false)
			for at := range list {
				other := slices.Clone(list)
				other[at]++
				seeSame(t, name+", another number", b, with(other), false)
				seeSame(t, name+", one less", b, with(slices.Delete(slices.Clone(list), at, at+1)), false)
			}
			if len(list) > 0 {
				seeSame(t, name+", none", b, with(nil), false)
			}
		}
	}
	// The same rooms, free in another order or for another kind, are other books.
	b := bookOfKinds()
	seeSame(t, "Heads, in another order", b, turn(b, func(x *impl.Book) { slices.Reverse(x.Heads[0]) }), false)
	seeSame(t, "Heads, of other kinds", b, turn(b, func(x *impl.Book) { x.Heads[2], x.Heads[3] = x.Heads[3], x.Heads[2] }), false)
	seeSame(t, "In and Epoch", turn(b, func(x *impl.Book) { x.In = x.Epoch }), turn(b, func(x *impl.Book) { x.Epoch = x.In }), false)
}

func TestNoListAndTheEmptyList(t *testing.T) {
	var none, bare impl.Book
	for _, list := range listsOf(&bare) {
		*list = make([]int, 0, 3)
	}
	seeSame(t, "nothing", none, bare, true)
	b := bookOfKinds()
	seeSame(t, "no free rooms", b, turn(b, func(x *impl.Book) { x.Heads[3] = []int{} }), true)
	if !impl.BookOk(turn(b, func(x *impl.Book) { x.Heads[3] = []int{} })) {
		t.Error("a book with an empty list is not ok")
	}
}

func TestRoomsOfBooks(t *testing.T) {
	sizes := map[int]int{1: 1, 2: 1, 10: 2, 12: 2, 16: 4, 24: 8, 32: 16}
	b := bookOfKinds()
	for at := -60; at <= 60; at++ {
		if got := impl.BookRoom(b, at); got != sizes[at] {
			t.Errorf("the room at %d has %d units, not %d", at, got, sizes[at])
		}
	}
	if got := impl.BookRoom(bookOfRows(), 8); got != 32 {
		t.Error("four pages:", got)
	}
	if got := impl.BookRoom(bookOfThree(), 16); got != 24 {
		t.Error("three pages:", got)
	}
	for _, at := range numbersThatAreNone(48) {
		if got := impl.BookRoom(b, at); got != 0 {
			t.Errorf("the room at %d, which is none, has %d units", at, got)
		}
	}
}

func TestRoomsOfSlots(t *testing.T) {
	b := bookOfKinds()
	for slot, want := range [][]int{{1, 10, 16, 32}, {2, 12, 24}, nil, nil} {
		if got := impl.BookOf(b, slot); !slices.Equal(got, want) {
			t.Errorf("slot %d has %v, not %v", slot, got, want)
		}
	}
	// -1 and 1 is 0, which is what a unit without an owner says.
	for _, slot := range numbersThatAreNone(4) {
		if got := impl.BookOf(b, slot); len(got) != 0 {
			t.Errorf("slot %d, which is none, has %v", slot, got)
		}
	}
	lent, asItWas := lend(b)
	rooms := impl.BookOf(lent, 0)
	for i := range rooms[:cap(rooms)] {
		rooms[:cap(rooms)][i] = -9
	}
	if !asItWas() || !slices.Equal(impl.BookOf(lent, 0), []int{1, 10, 16, 32}) {
		t.Error("rooms share memory")
	}
}

func TestRoomsOfManyBooks(t *testing.T) {
	for _, b := range someBooks(400, 10) {
		for at := -1; at <= len(b.Owner); at++ {
			if got := impl.BookRoom(b, at); got != modelRoom(b, at) {
				t.Fatalf("the room at %d has %d units: %v", at, got, b)
			}
		}
		for slot := -1; slot <= b.Slots; slot++ {
			if got := impl.BookOf(b, slot); !slices.Equal(got, modelOf(b, slot)) {
				t.Fatalf("slot %d has %v: %v", slot, got, b)
			}
		}
	}
}

func TestCuts(t *testing.T) {
	b := bookOfKinds()
	wants := map[int][]int{0: {2, 2, 1, 0}, 1: {1, 2, 1, 0}, 2: {1, 2, 2, 0}, 3: {1, 2, 1, 0}}
	for _, slot := range numbersThatAreNone(4) {
		wants[slot] = b.In
	}
	for slot, in := range wants {
		want := turn(b, func(x *impl.Book) { x.In = in })
		if got := bookCut(t, b, slot); !alike(got, want) || !impl.BookOk(got) {
			t.Errorf("slot %d: %v", slot, got)
		}
	}
	for _, b := range someBooks(400, 10) {
		for slot := -1; slot <= b.Slots; slot++ {
			got := bookCut(t, b, slot)
			if !alike(got, modelCut(b, slot)) || !impl.BookOk(got) {
				t.Errorf("slot %d: %v, of %v", slot, got, b)
			}
			if !alike(bookCut(t, got, slot), got) {
				t.Errorf("slot %d: cut off twice it is another book: %v", slot, got)
			}
		}
	}
}

// said is a call, and what must be said of it.
type said struct {
	op   impl.BookOp
	code int
	val  int
}

// seeSaid makes each call of one book, and sees to it that a book stays as it
// is with any code but two.
func seeSaid(t *testing.T, b impl.Book, all []said) {
	t.Helper()
	for _, s := range all {
		x, code, val := bookDo(t, b, s.op)
		if code != s.code || val != s.val {
			t.Errorf("%v: %d %d, not %d %d", s.op, code, val, s.code, s.val)
		}
		if code != codeDone && code != codeMore && !alike(x, b) {
			t.Errorf("%v: code %d, but the book has turned: %v", s.op, code, x)
		}
		if want, _, _ := modelDo(b, s.op); !alike(x, want) || !impl.BookOk(x) {
			t.Errorf("%v: %v, not %v", s.op, x, want)
		}
	}
}

// Every code of every kind of call; where two would fit, the one that is looked
// for first.
func TestCodes(t *testing.T) {
	b := bookOfKinds()
	seeSaid(t, b, []said{
		{impl.BookOp{Kind: enters, Slot: 3}, codeDone, 8},
		{impl.BookOp{Kind: enters, Slot: 3, A: -9, B: 99}, codeDone, 8},
		{impl.BookOp{Kind: enters, Slot: 0}, codeTaken, 0},
		{impl.BookOp{Kind: enters, Slot: 1}, codeTaken, 0}, // cut off, and with its last epoch
		{impl.BookOp{Kind: takes, Slot: 0, A: 2}, codeDone, 14},
		{impl.BookOp{Kind: takes, Slot: 1, A: 1}, codeDone, 7},
		{impl.BookOp{Kind: takes, Slot: 2, A: 3}, codeDone, 20},
		{impl.BookOp{Kind: takes, Slot: 2, A: 8}, codeFull, 0},
		{impl.BookOp{Kind: takes, Slot: 2, A: 9}, codeFull, 0},
		{impl.BookOp{Kind: takes, Slot: 2, A: 33}, codeSize, 0},
		{impl.BookOp{Kind: takes, Slot: 2, A: 0}, codeSize, 0},
		{impl.BookOp{Kind: takes, Slot: 3, A: 0}, codeNobody, 0},
		{impl.BookOp{Kind: takes, Slot: 3, A: 1}, codeNobody, 0},
		{impl.BookOp{Kind: gives, Slot: 0, A: 1}, codeDone, 0},
		{impl.BookOp{Kind: gives, Slot: 0, A: 32}, codeDone, 0},
		{impl.BookOp{Kind: gives, Slot: 1, A: 24}, codeDone, 0},
		{impl.BookOp{Kind: gives, Slot: 0, A: 2}, codeWhose, 0},
		{impl.BookOp{Kind: gives, Slot: 2, A: 32}, codeWhose, 0},
		{impl.BookOp{Kind: gives, Slot: 0, A: 0}, codeWhere, 0},  // free
		{impl.BookOp{Kind: gives, Slot: 0, A: 33}, codeWhere, 0}, // within a room
		{impl.BookOp{Kind: gives, Slot: 0, A: 40}, codeWhere, 0}, // its second page
		{impl.BookOp{Kind: gives, Slot: 3, A: 40}, codeNobody, 0},
		{impl.BookOp{Kind: gives, Slot: 3, A: 1}, codeNobody, 0},
		{impl.BookOp{Kind: hands, Slot: 0, A: 1, B: 2}, codeDone, 0},
		{impl.BookOp{Kind: hands, Slot: 0, A: 1, B: 1}, codeDone, 0}, // to one who was cut off
		{impl.BookOp{Kind: hands, Slot: 0, A: 1, B: 0}, codeDone, 0}, // to itself
		{impl.BookOp{Kind: hands, Slot: 1, A: 24, B: 0}, codeDone, 0},
		{impl.BookOp{Kind: hands, Slot: 0, A: 1, B: 3}, codeWhom, 0},
		{impl.BookOp{Kind: hands, Slot: 0, A: 2, B: 2}, codeWhose, 0},
		{impl.BookOp{Kind: hands, Slot: 0, A: 2, B: 3}, codeWhose, 0},
		{impl.BookOp{Kind: hands, Slot: 0, A: 3, B: 2}, codeWhere, 0},
		{impl.BookOp{Kind: hands, Slot: 0, A: 3, B: 3}, codeWhere, 0},
		{impl.BookOp{Kind: hands, Slot: 3, A: 3, B: 3}, codeNobody, 0},
		{impl.BookOp{Kind: leaves, Slot: 0}, codeKeeps, 0},
		{impl.BookOp{Kind: leaves, Slot: 1}, codeKeeps, 0},
		{impl.BookOp{Kind: leaves, Slot: 2}, codeDone, 0},
		{impl.BookOp{Kind: leaves, Slot: 3}, codeNobody, 0},
		{impl.BookOp{Kind: reaps, Slot: 0, A: 1}, codeMore, 2},
		{impl.BookOp{Kind: reaps, Slot: 1, A: 1}, codeMore, 2}, // its own slot
		{impl.BookOp{Kind: reaps, Slot: 0, A: 0}, codeLives, 0},
		{impl.BookOp{Kind: reaps, Slot: 0, A: 2}, codeLives, 0},
		{impl.BookOp{Kind: reaps, Slot: 1, A: 0}, codeLives, 0},
		{impl.BookOp{Kind: reaps, Slot: 0, A: 3}, codeNobody, 0},
		{impl.BookOp{Kind: reaps, Slot: 3, A: 1}, codeNobody, 0},
		{impl.BookOp{Kind: reaps, Slot: 3, A: 0}, codeNobody, 0},
	})
	seeSaid(t, turn(b, func(x *impl.Book) { x.Epoch[3] = 4095 }), []said{{impl.BookOp{Kind: enters, Slot: 3}, codeWorn, 0}})
	seeSaid(t, turn(b, func(x *impl.Book) { x.Epoch[3] = 4094 }), []said{{impl.BookOp{Kind: enters, Slot: 3}, codeDone, 4095}})
	seeSaid(t, turn(b, func(x *impl.Book) { x.Epoch[3] = 0 }), []said{{impl.BookOp{Kind: enters, Slot: 3}, codeDone, 1}})
	seeSaid(t, turn(b, func(x *impl.Book) { x.In[2] = cut }), []said{
		{impl.BookOp{Kind: reaps, Slot: 0, A: 2}, codeDone, 0},
		{impl.BookOp{Kind: reaps, Slot: 2, A: 2}, codeDone, 0},
		{impl.BookOp{Kind: leaves, Slot: 2}, codeDone, 0},
	})
}

// Slots, units and rooms that are none.
func TestCallsOfWhatIsNone(t *testing.T) {
	b := bookOfKinds()
	for _, n := range numbersThatAreNone(4) {
		for kind := -1; kind <= 8; kind++ {
			seeSaid(t, b, []said{{impl.BookOp{Kind: kind, Slot: n, A: 1, B: 1}, codeNone, 0}})
		}
		seeSaid(t, b, []said{
			{impl.BookOp{Kind: hands, Slot: 0, A: 1, B: n}, codeWhom, 0},
			{impl.BookOp{Kind: hands, Slot: 0, A: 2, B: n}, codeWhose, 0},
			{impl.BookOp{Kind: hands, Slot: 0, A: 3, B: n}, codeWhere, 0},
			{impl.BookOp{Kind: reaps, Slot: 0, A: n}, codeNobody, 0},
		})
	}
	for _, n := range numbersThatAreNone(48) {
		seeSaid(t, b, []said{
			{impl.BookOp{Kind: gives, Slot: 0, A: n}, codeWhere, 0},
			{impl.BookOp{Kind: hands, Slot: 0, A: n, B: 1}, codeWhere, 0},
			{impl.BookOp{Kind: takes, Slot: 0, A: n}, codeSize, 0},
			{impl.BookOp{Kind: reaps, Slot: 0, A: n}, codeNobody, 0},
		})
	}
	// A call that is none is looked for behind who makes it.
	for _, kind := range []int{math.MinInt, -1, 0, 7, 8, 13, 1 << 32, 1<<32 + 1, math.MaxInt} {
		seeSaid(t, b, []said{
			{impl.BookOp{Kind: kind, Slot: 0, A: 1, B: 1}, codeNone, 0},
			{impl.BookOp{Kind: kind, Slot: 1, A: 1, B: 1}, codeNone, 0},
			{impl.BookOp{Kind: kind, Slot: 3, A: 1, B: 1}, codeNobody, 0},
			{impl.BookOp{Kind: kind, Slot: 4, A: 1, B: 1}, codeNone, 0},
		})
	}
}

// guestsIn is an empty house with somebody in at each slot.
func guestsIn(slots int, pages int) impl.Book {
	b := modelOpen(slots, pages)
	for slot := range slots {
		b.In[slot], b.Epoch[slot] = live, 1
	}
	return b
}

// taking is a taking that must be done.
func taking(t *testing.T, b impl.Book, slot int, units int) (impl.Book, int) {
	t.Helper()
	x, code, val := bookDo(t, b, impl.BookOp{Kind: takes, Slot: slot, A: units})
	if code != codeDone || !impl.BookOk(x) {
		t.Fatalf("slot %d takes %d units: code %d, %v", slot, units, code, x)
	}
	return x, val
}

// giving is a giving back that must be done.
func giving(t *testing.T, b impl.Book, slot int, at int) impl.Book {
	t.Helper()
	x, code, val := bookDo(t, b, impl.BookOp{Kind: gives, Slot: slot, A: at})
	if code != codeDone || val != 0 || !impl.BookOk(x) {
		t.Fatalf("slot %d gives back %d: code %d, number %d, %v", slot, at, code, val, x)
	}
	return x
}

// Each number of units in an empty house: what it takes, and what is free then.
func TestTakingEachSize(t *testing.T) {
	for units := 0; units <= 33; units++ {
		b := guestsIn(2, 6)
		x, code, val := bookDo(t, b, impl.BookOp{Kind: takes, Slot: 1, A: units})
		want := copyOf(b)
		switch {
		case units == 0 || units == 33:
			if code != codeSize || val != 0 || !alike(x, b) {
				t.Errorf("%d units: %d %d", units, code, val)
			}
			continue
		case units == 1:
			want.Pages[0], want.Heads[0] = 1, []int{1, 2, 3, 4, 5, 6, 7}
		case units == 2:
			want.Pages[0], want.Heads[1] = 2, []int{2, 4, 6}
		case units <= 4:
			want.Pages[0], want.Heads[2] = 3, []int{4}
		case units <= 8:
			want.Pages[0] = 4
		case units <= 16:
			want.Pages = []int{10, 7, 0, 0, 0, 0}
		case units <= 24:
			want.Pages = []int{11, 7, 7, 0, 0, 0}
		default:
			want.Pages = []int{12, 7, 7, 7, 0, 0}
		}
		want.Owner[0] = 2
		if code != codeDone || val != 0 || !alike(x, want) {
			t.Errorf("%d units: %d %d, %v, not %v", units, code, val, x, want)
		}
	}
}

// A page becomes one of a kind only where none of that kind is free, and it is
// the first empty one.
func TestAPageBecomesOneOfAKind(t *testing.T) {
	b := guestsIn(1, 4)
	b, first := taking(t, b, 0, 8)
	b, _ = taking(t, b, 0, 4)
	b, _ = taking(t, b, 0, 8)
	b = giving(t, b, 0, first)
	for i, want := range []int{12, 0, 4, 24, 28} {
		x, val := taking(t, b, 0, 3)
		if val != want {
			t.Errorf("the room %d is %d, not %d", i, val, want)
		}
		b = x
	}
	seeSaid(t, b, []said{
		{impl.BookOp{Kind: takes, Slot: 0, A: 3}, codeFull, 0},
		{impl.BookOp{Kind: takes, Slot: 0, A: 1}, codeFull, 0},
		{impl.BookOp{Kind: takes, Slot: 0, A: 9}, codeFull, 0},
	})
	if !slices.Equal(b.Pages, []int{3, 3, 4, 3}) {
		t.Error(b.Pages)
	}
}

// rowBook is a house in which the pages named have one room each, of slot 0.
func rowBook(pages int, used ...int) impl.Book {
	b := guestsIn(2, pages)
	for _, page := range used {
		b.Pages[page], b.Owner[8*page] = 4, 1
	}
	return b
}

func TestRowsOfPages(t *testing.T) {
	for _, c := range []struct {
		used  []int
		units int
		at    int // -1, if it is full
	}{
		{nil, 9, 0}, {nil, 16, 0}, {nil, 17, 0}, {nil, 24, 0}, {nil, 25, 0}, {nil, 32, 0},
		{[]int{2, 3, 4, 5}, 16, 0}, {[]int{2, 3, 4, 5}, 17, -1},
		{[]int{3, 4, 5}, 24, 0}, {[]int{3, 4, 5}, 25, -1}, {[]int{4, 5}, 32, 0},
		{[]int{0, 3, 4, 5}, 16, 8}, {[]int{0, 4, 5}, 24, 8}, {[]int{0, 5}, 32, 8}, {[]int{0, 5}, 25, 8},
		{[]int{0, 1, 2, 3}, 16, 32}, {[]int{0, 1, 2}, 24, 24}, {[]int{0, 1}, 32, 16},
		{[]int{0, 1, 2, 3}, 17, -1}, {[]int{0, 1, 2}, 25, -1},
		{[]int{1}, 16, 16}, {[]int{1}, 24, 16}, {[]int{1}, 32, 16},
		{[]int{1, 4}, 16, 16}, {[]int{1, 4}, 24, -1}, {[]int{2}, 16, 0}, {[]int{2}, 24, 24}, {[]int{2}, 25, -1},
		{[]int{1, 3}, 9, 32}, {[]int{1, 3, 5}, 9, -1}, {[]int{0, 2, 4}, 9, -1}, {[]int{3}, 32, -1}, {[]int{3}, 17, 0},
		{[]int{0, 1, 2, 3, 4}, 9, -1}, {[]int{0, 1, 2, 3, 4, 5}, 9, -1},
	} {
		b := rowBook(6, c.used...)
		x, code, val := bookDo(t, b, impl.BookOp{Kind: takes, Slot: 1, A: c.units})
		if c.at < 0 {
			if code != codeFull || val != 0 || !alike(x, b) {
				t.Errorf("%v, %d units: %d %d", c.used, c.units, code, val)
			}
			continue
		}
		want := copyOf(b)
		many := (c.units + 7) / 8
		for i := range many {
			want.Pages[c.at/8+i] = rest
		}
		want.Pages[c.at/8] = large + many
		want.Owner[c.at] = 2
		if code != codeDone || val != c.at || !alike(x, want) || impl.BookRoom(x, c.at) != 8*many {
			t.Errorf("%v, %d units: %d %d, %v", c.used, c.units, code, val, x)
		}
		if back := giving(t, x, 1, c.at); !alike(back, b) {
			t.Errorf("%v, %d units: given back it is %v", c.used, c.units, back)
		}
	}
}

// Small houses have no rows, and rows end where a house does.
func TestRowsOfSmallHouses(t *testing.T) {
	for pages := 1; pages <= 6; pages++ {
		for units := 9; units <= 32; units++ {
			want := codeDone
			if (units+7)/8 > pages {
				want = codeFull
			}
			if _, code, _ := bookDo(t, guestsIn(1, pages), impl.BookOp{Kind: takes, A: units}); code != want {
				t.Errorf("%d units of %d pages: code %d, not %d", units, pages, code, want)
			}
		}
	}
}

// A page whose last room is given back is empty, and its rooms leave Heads,
// wherever they stand there, but no other ones do.
func TestTheLastRoomOfAPage(t *testing.T) {
	b := bookOfThree()
	b.In[0] = live
	b = giving(t, b, 0, 2)
	if !slices.Equal(b.Heads[1], []int{2, 14, 0, 8, 4}) || b.Pages[0] != 2 {
		t.Error("one is left:", b)
	}
	b = giving(t, b, 0, 6)
	if !slices.Equal(b.Heads[1], []int{14, 8}) || b.Pages[0] != empty || b.Pages[1] != 2 {
		t.Error("none is left on page 0:", b)
	}
	b = giving(t, b, 0, 12)
	b = giving(t, b, 0, 10)
	if len(b.Heads[1]) != 0 || b.Pages[1] != empty {
		t.Error("none is left on page 1:", b)
	}
	b = giving(t, b, 0, 16)
	if !alike(b, turn(guestsIn(1, 5), func(x *impl.Book) { x.Epoch[0] = 4095 })) {
		t.Error("none is left at all:", b)
	}
	// Of a page that is one room, that one is the last.
	b = bookOfKinds()
	if x := giving(t, b, 1, 24); x.Pages[3] != empty || len(x.Heads[3]) != 0 {
		t.Error(x)
	}
	// Other pages' rooms of other kinds stay in Heads.
	if x := giving(t, b, 0, 16); x.Pages[2] != empty || len(x.Heads[2]) != 0 || !slices.Equal(x.Heads[0], b.Heads[0]) || !slices.Equal(x.Heads[1], b.Heads[1]) {
		t.Error(x)
	}
}

// A slot with rooms of all kinds is reaped by itself or by another.
func TestReapingAllKinds(t *testing.T) {
	for _, reaper := range []int{0, 1, 2} {
		b := bookOfKinds()
		b.In[0] = cut
		b.In[1] = live
		var rooms []int
		code := codeMore
		for range 100 {
			var val int
			b, code, val = bookDo(t, b, impl.BookOp{Kind: reaps, Slot: reaper, A: 0})
			if code != codeMore {
				break
			}
			rooms = append(rooms, val)
			if !impl.BookOk(b) || b.In[0] != cut {
				t.Fatal(b)
			}
		}
		want := impl.Book{
			Slots: 4,
			Pages: []int{1, 2, 0, 4, 0, 0},
			Heads: [4][]int{{1, 7, 0, 3, 4, 5, 6}, {10, 14, 8}, nil, nil},
			Owner: make([]int, 48),
			In:    []int{0, 1, 1, 0},
			Epoch: []int{1, 4095, 9, 7},
		}
		want.Owner[2], want.Owner[12], want.Owner[24] = 2, 2, 2
		if code != codeDone || !slices.Equal(rooms, []int{1, 10, 16, 32}) || !alike(b, want) {
			t.Errorf("by slot %d: code %d, %v, %v", reaper, code, rooms, b)
		}
		// Slot 1 asks, as who reaped its own slot is not in any more.
		if _, code, _ = bookDo(t, b, impl.BookOp{Kind: reaps, Slot: 1, A: 0}); code != codeNobody {
			t.Errorf("by slot %d: reaped once more: code %d", reaper, code)
		}
	}
}

// Who comes in behind one who was reaped has the next epoch, and no rooms.
func TestComingInAgain(t *testing.T) {
	b := guestsIn(2, 1)
	b, _ = taking(t, b, 0, 1)
	b = bookCut(t, b, 0)
	for range 2 {
		b, _, _ = bookDo(t, b, impl.BookOp{Kind: reaps, Slot: 1, A: 0})
	}
	b, code, val := bookDo(t, b, impl.BookOp{Kind: enters, Slot: 0})
	if code != codeDone || val != 2 || !alike(b, turn(guestsIn(2, 1), func(x *impl.Book) { x.Epoch[0] = 2 })) {
		t.Error(code, val, b)
	}
}

// Lists of the book that is handed in may share memory; those of the answer
// must not.
func TestListsThatShareMemory(t *testing.T) {
	both := []int{1, 1}
	b := impl.Book{Slots: 2, Pages: []int{empty, empty}, Owner: make([]int, 16), In: both, Epoch: both}
	want := copyOf(b)
	want.In[1] = cut
	if x := impl.BookCut(b, 1); !alike(x, want) || !spoil(x) || !slices.Equal(both, []int{1, 1}) {
		t.Error(x)
	}
	want = copyOf(b)
	want.In[0] = out
	if x, code, _ := impl.BookDo(b, impl.BookOp{Kind: leaves}); code != codeDone || !alike(x, want) || !spoil(x) || !slices.Equal(both, []int{1, 1}) {
		t.Error(x, code)
	}
	shared := []int{1, 0, 0, 0, 0, 0, 0, 0}
	b = impl.Book{Slots: 1, Pages: shared[:1], Heads: [4][]int{{7, 6, 5, 4, 3, 2, 1}, nil, nil, nil}, Owner: shared, In: shared[:1], Epoch: shared[:1]}
	want = modelOpen(1, 1)
	want.In[0], want.Epoch[0] = live, 1
	if x, code, _ := impl.BookDo(b, impl.BookOp{Kind: gives, A: 0}); code != codeDone || !alike(x, want) || !spoil(x) || shared[0] != 1 {
		t.Error(x, code)
	}
}
