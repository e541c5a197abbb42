package tests

import (
	"math"
	"slices"
	"testing"

	"loop.example/hostel/impl"
)

// somethings is a tale in a house of one page: guests 4 and 2 come in, take and
// hand on, one is cut off, reaped twice, and does what it may not; and the book
// behind it.
func somethings() ([]impl.TaleItem, impl.Book) {
	list := []impl.TaleItem{
		itemOf(4, impl.BookOp{Kind: enters, Slot: 0}, codeDone, 1),
		itemOf(2, impl.BookOp{Kind: enters, Slot: 1}, codeDone, 1),
		itemOf(4, impl.BookOp{Kind: takes, Slot: 0, A: 2}, codeDone, 0),
		itemOf(4, impl.BookOp{Kind: takes, Slot: 0, A: 2}, codeDone, 2),
		itemOf(2, impl.BookOp{Kind: takes, Slot: 1, A: 9}, codeFull, 0),
		itemOf(4, impl.BookOp{Kind: hands, Slot: 0, A: 2, B: 1}, codeDone, 0),
		itemOf(4, impl.BookOp{Kind: gives, Slot: 0, A: 2}, codeWhose, 0),
		cutBy(2, 0),
		itemOf(2, impl.BookOp{Kind: reaps, Slot: 1, A: 0}, codeMore, 0),
		itemOf(2, impl.BookOp{Kind: reaps, Slot: 1, A: 0}, codeDone, 0),
		itemOf(4, impl.BookOp{Kind: takes, Slot: 0, A: 1}, codeNobody, 0),
	}
	return list, impl.Book{
		Slots: 2,
		Pages: []int{2},
		Heads: [4][]int{nil, {0, 4, 6}, nil, nil},
		Owner: []int{0, 0, 2, 0, 0, 0, 0, 0},
		In:    []int{out, live},
		Epoch: []int{1, 1},
	}
}

// seeBehind holds the book behind a tale against one that is named in figures.
func seeBehind(t *testing.T, why string, b impl.Book, list []impl.TaleItem, want impl.Book, said bool) {
	t.Helper()
	if got, ok := seeTaleBook(t, why, b, list); ok != said || !alike(got, want) {
		t.Errorf("%s: %v, %+v, not %v, %+v", why, ok, got, said, want)
	}
}

// The book behind a tale, and behind each beginning of it.
func TestTheBookOfATale(t *testing.T) {
	list, want := somethings()
	open := modelOpen(2, 1)
	seeBehind(t, "all", open, list, want, true)
	seeBehind(t, "no items", open, nil, open, true)
	seeBehind(t, "no items", open, []impl.TaleItem{}, open, true)
	b := open
	for n, item := range list {
		if item.Cut {
			b = modelCut(b, item.Op.Slot)
		} else {
			b, _, _ = modelDo(b, item.Op)
		}
		seeBehind(t, "a beginning", open, list[:n+1], b, true)
		// One behind the other: the others go on from there.
		seeBehind(t, "an end", b, list[n+1:], want, true)
	}
}

// Nobody asks who it was that has called: the book knows slots alone.
func TestTheBookKnowsSlotsAlone(t *testing.T) {
	for _, guest := range []int{math.MinInt, -1, 0, 1, 5, 6, math.MaxInt} {
		list, want := somethings()
		for n := range list {
			list[n].Guest = guest
		}
		seeBehind(t, "another guest", modelOpen(2, 1), list, want, true)
	}
}

// An item whose code, or whose number, is not what the book says: false; and the
// book is told all the same, as the calls are what they are.
func TestWhatTheBookDoesNotSay(t *testing.T) {
	list, want := somethings()
	for at, item := range list {
		for code := -1; code <= 14; code++ {
			other := slices.Clone(list)
			other[at].Code = code
			seeBehind(t, "a code", modelOpen(2, 1), other, want, item.Cut || code == item.Code)
		}
		for _, val := range []int{math.MinInt, -1, 0, 1, 2, 3, 4095, 1 << 32, math.MaxInt} {
			other := slices.Clone(list)
			other[at].Val = val
			seeBehind(t, "a number", modelOpen(2, 1), other, want, item.Cut || val == item.Val)
		}
		both := slices.Clone(list)
		both[at].Code, both[at].Val = codeFenced, 77
		seeBehind(t, "both", modelOpen(2, 1), both, want, item.Cut)
		wrong := slices.Clone(list)
		for n := range wrong[:at+1] {
			wrong[n].Val += 5
		}
		seeBehind(t, "many", modelOpen(2, 1), wrong, want, false)
	}
}

// A call that is left out, and one that is told twice: what comes behind is
// another book's, and most of it said otherwise.
func TestATaleThatIsNotWhole(t *testing.T) {
	list, _ := somethings()
	for at := range list {
		seeTaleBook(t, "one is left out", modelOpen(2, 1), slices.Delete(slices.Clone(list), at, at+1))
		seeTaleBook(t, "one twice", modelOpen(2, 1), slices.Insert(slices.Clone(list), at, list[at]))
		swapped := slices.Clone(list)
		swapped[at], swapped[0] = swapped[0], swapped[at]
		seeTaleBook(t, "in another order", modelOpen(2, 1), swapped)
	}
	if _, said := seeTaleBook(t, "nobody came in", modelOpen(2, 1), list[1:]); said {
		t.Error("a guest took a room and had not come in")
	}
}

// Items with Cut: of who is in, who was cut off, nobody, and of what is no slot;
// with anything beside them.
func TestCutsOfATale(t *testing.T) {
	for slot := range 4 {
		b := bookOfKinds()
		want := turn(b, func(b *impl.Book) {
			if b.In[slot] == live {
				b.In[slot] = cut
			}
		})
		for _, item := range []impl.TaleItem{
			cutBy(0, slot),
			{Cut: true, Guest: -9, Op: impl.BookOp{Kind: takes, Slot: slot, A: 1, B: 2}, Code: 13, Val: -1},
			{Cut: true, Guest: 99, Op: impl.BookOp{Kind: leaves, Slot: slot}, Code: math.MaxInt, Val: math.MinInt},
			{Cut: true, Op: impl.BookOp{Kind: enters, Slot: slot, A: slot, B: slot}, Code: codeDone, Val: 1},
		} {
			seeBehind(t, "cut off", b, []impl.TaleItem{item}, want, true)
			seeBehind(t, "twice", b, []impl.TaleItem{item, item}, want, true)
			wrong := itemOf(0, impl.BookOp{Kind: takes, Slot: 3, A: 1}, codeDone, 0)
			seeBehind(t, "beside one that is wrong", b, []impl.TaleItem{item, wrong, item}, want, false)
		}
	}
	for _, slot := range numbersThatAreNone(4) {
		seeBehind(t, "no slot", bookOfKinds(), []impl.TaleItem{cutBy(0, slot)}, bookOfKinds(), true)
	}
	seeBehind(t, "nobody was ever in", modelOpen(1, 1), []impl.TaleItem{cutBy(0, 0)}, modelOpen(1, 1), true)
}

// Items of a Kind that is none, and of a slot that is none: the book is as it is,
// and says BookNone, or that nobody is in.
func TestItemsOfNoKind(t *testing.T) {
	b := bookOfKinds()
	for _, kind := range []int{math.MinInt, -1, 0, 7, 8, math.MaxInt} {
		for slot := -1; slot <= 5; slot++ {
			says := codeNone
			if slot == 3 {
				says = codeNobody
			}
			for code := -1; code <= 14; code++ {
				for val := -1; val <= 1; val++ {
					item := itemOf(0, impl.BookOp{Kind: kind, Slot: slot, A: 1}, code, val)
					seeBehind(t, "no kind", b, []impl.TaleItem{item}, b, code == says && val == 0)
				}
			}
		}
	}
	for kind := enters; kind <= reaps; kind++ {
		for _, slot := range numbersThatAreNone(4) {
			op := impl.BookOp{Kind: kind, Slot: slot, A: 1, B: 1}
			seeBehind(t, "no slot", b, []impl.TaleItem{itemOf(0, op, codeNone, 0)}, b, true)
			seeBehind(t, "no slot", b, []impl.TaleItem{itemOf(0, op, codeDone, 0)}, b, false)
		}
	}
}

// Two thousand items, and one more.
func TestSoManyItems(t *testing.T) {
	b := bookOfKinds()
	give := itemOf(0, impl.BookOp{Kind: gives, Slot: 0, A: 16}, codeDone, 0)
	take := itemOf(0, impl.BookOp{Kind: takes, Slot: 0, A: 3}, codeDone, 16)
	for _, many := range []int{1, 2, 1999, 2000, 2001, 2002, 5000} {
		// It ends with a wrong one, or with a cut.
		for _, last := range []impl.TaleItem{cutBy(0, 2), itemOf(0, impl.BookOp{Kind: takes, Slot: 2, A: 1}, codeDone, 9)} {
			list := slices.Repeat([]impl.TaleItem{give, take}, many)[:many]
			list[many-1] = last
			got, said := seeTaleBook(t, "so many", b, list)
			if many > 2000 && (said || !isNothing(got)) {
				t.Errorf("%d items: %v, %+v", many, said, got)
			}
			if many <= 2000 && (said != last.Cut || isNothing(got) || last.Cut && got.In[2] != cut) {
				t.Errorf("%d items: %v, %+v", many, said, got)
			}
		}
		all := make([]impl.TaleItem, many)
		for n := range all {
			all[n] = cutBy(n, n)
		}
		if got, said := seeTaleBook(t, "cuts", b, all); said != (many <= 2000) || isNothing(got) != (many > 2000) {
			t.Errorf("%d cuts: %v, %+v", many, said, got)
		}
	}
}

// Books that are not ok: nothing and false, whatever has happened.
func TestTalesOfBooksThatAreNotOk(t *testing.T) {
	list, _ := somethings()
	for why, b := range notOkBooks() {
		for _, some := range [][]impl.TaleItem{nil, {}, list[:1], list, {cutBy(0, 0)}, make([]impl.TaleItem, 2001)} {
			if got, said := seeTaleBook(t, why, b, some); said || !isNothing(got) {
				t.Errorf("%s: %v, %+v", why, said, got)
			}
		}
	}
}

// Thrown calls and cuts in books of all houses, with the codes that the book says,
// and some others, held against the model; and the book stays ok (P5).
func TestAnyBookOfATale(t *testing.T) {
	d := dice(83)
	met := map[bool]int{}
	for _, b := range someBooks(60, 12) {
		for range 3 {
			x, list := b, []impl.TaleItem(nil)
			for range d.below(40) {
				if d.below(10) == 0 {
					list = append(list, cutBy(d.below(6), d.below(6)-1))
					x = modelCut(x, list[len(list)-1].Op.Slot)
					continue
				}
				op := d.anyOp(x)
				y, code, val := modelDo(x, op)
				if d.below(60) == 0 {
					code, val = d.below(14), d.below(9)
				}
				list, x = append(list, itemOf(d.below(6), op, code, val)), y
			}
			got, said := seeTaleBook(t, "thrown", b, list)
			if !alike(got, x) || !modelOk(got) {
				t.Fatalf("%v: %+v, not %+v", list, got, x)
			}
			met[said]++
		}
	}
	if met[true] < 20 || met[false] < 20 {
		t.Error(met)
	}
}

// TaleOf of guests that have items, that have none, and that there are not: in
// order, without cuts.
func TestTheTaleOfAGuest(t *testing.T) {
	list, _ := somethings()
	want := map[int][]int{4: {0, 2, 3, 5, 6, 10}, 2: {1, 4, 8, 9}}
	for _, guest := range []int{math.MinInt, -2, -1, 0, 1, 2, 3, 4, 5, 6, 1 << 32, 1<<32 + 2, math.MaxInt} {
		got := taleOf(t, list, guest)
		if len(got) != len(want[guest]) {
			t.Fatalf("guest %d: %v", guest, got)
		}
		for n, at := range want[guest] {
			if got[n] != list[at] {
				t.Errorf("guest %d: %v", guest, got)
			}
		}
		if none := taleOf(t, nil, guest); len(none) != 0 {
			t.Errorf("guest %d of no items: %v", guest, none)
		}
		if none := taleOf(t, []impl.TaleItem{cutBy(guest, 0), cutBy(guest, guest)}, guest); len(none) != 0 {
			t.Errorf("guest %d of cuts: %v", guest, none)
		}
	}
}

// An item is its guest's by its number alone, whatever else it has, one below 0
// too; and there may be more of them than a tale has.
func TestAnyTaleOfAGuest(t *testing.T) {
	d := dice(84)
	for _, many := range []int{1, 2, 10, 1999, 2000, 2001, 6000} {
		list := make([]impl.TaleItem, many)
		for n := range list {
			list[n] = impl.TaleItem{Cut: d.below(4) == 0, Guest: d.below(5) - 2, Code: d.below(20) - 3, Val: n}
			list[n].Op = impl.BookOp{Kind: d.below(9) - 1, Slot: d.below(6) - 1, A: d.below(3), B: -n}
		}
		whole := 0
		for guest := -4; guest <= 4; guest++ {
			want := modelTaleOf(list, guest)
			if got := taleOf(t, list, guest); !slices.Equal(got, want) {
				t.Fatalf("guest %d: %v, not %v", guest, got, want)
			}
			whole += len(want)
		}
		if cuts := slices.DeleteFunc(slices.Clone(list), func(item impl.TaleItem) bool { return !item.Cut }); whole+len(cuts) != many {
			t.Errorf("%d of guests and %d cuts of %d", whole, len(cuts), many)
		}
	}
}
