package tests

import (
	"math"
	"slices"
	"testing"

	"loop.example/hostel/impl"
)

// Codes, calls, pages and states in plain figures: the tests must not follow
// the program's constants, if those go wrong.
const (
	codeDone   = 0
	codeSize   = 1
	codeFull   = 2
	codeWhere  = 3
	codeWhose  = 4
	codeWhom   = 5
	codeTaken  = 6
	codeKeeps  = 7
	codeLives  = 8
	codeNobody = 9
	codeMore   = 10
	codeWorn   = 12
	codeNone   = 13

	enters = 1
	takes  = 2
	gives  = 3
	hands  = 4
	leaves = 5
	reaps  = 6

	empty = 0
	rest  = 7
	large = 8

	out  = 0
	live = 1
	cut  = 2
)

// listsOf is where the lists of a book stand, in a fixed order.
func listsOf(b *impl.Book) []*[]int {
	return []*[]int{&b.Pages, &b.Heads[0], &b.Heads[1], &b.Heads[2], &b.Heads[3], &b.Owner, &b.In, &b.Epoch}
}

var namesOfLists = []string{"Pages", "Heads of kind 0", "Heads of kind 1", "Heads of kind 2", "Heads of kind 3", "Owner", "In", "Epoch"}

func copyOf(b impl.Book) impl.Book {
	for _, list := range listsOf(&b) {
		*list = slices.Clone(*list)
	}
	return b
}

// alike compares books without asking the program.
func alike(a impl.Book, b impl.Book) bool {
	x, y := listsOf(&a), listsOf(&b)
	for i := range x {
		if !slices.Equal(*x[i], *y[i]) {
			return false
		}
	}
	return a.Slots == b.Slots
}

func isNothing(b impl.Book) bool { return alike(b, impl.Book{}) }

// lend is the book with spare room behind each list, and a question whether all
// of it, with the room behind, is still as it was.
func lend(b impl.Book) (impl.Book, func() bool) {
	var rooms, before [][]int
	for i, list := range listsOf(&b) {
		n := len(*list)
		room := append(slices.Clone(*list), 100+i, 200+i, 300+i)
		*list = room[:n]
		rooms, before = append(rooms, room), append(before, slices.Clone(room))
	}
	return b, func() bool {
		for i, room := range rooms {
			if !slices.Equal(room, before[i]) {
				return false
			}
		}
		return true
	}
}

// spoil writes over all lists of an answer, spare room included, and says
// whether no two of them share any of it.
func spoil(b impl.Book) bool {
	lists := listsOf(&b)
	for i, list := range lists {
		all := (*list)[:cap(*list)]
		for at := range all {
			all[at] = -1000 - i
		}
	}
	for i, list := range lists {
		for _, n := range (*list)[:cap(*list)] {
			if n != -1000-i {
				return false
			}
		}
	}
	return true
}

// answered is a book that was answered, as it was ahead of its being spoilt; the
// book that was handed in must come through that as it was.
func answered(t *testing.T, what any, asked impl.Book, call func(b impl.Book) impl.Book) impl.Book {
	t.Helper()
	lent, asItWas := lend(asked)
	got := call(lent)
	answer := copyOf(got)
	if !asItWas() {
		t.Fatalf("%v: wrote into the book that was handed in: %v", what, asked)
	}
	if !spoil(got) {
		t.Fatalf("%v: lists of the answer share memory: %v", what, answer)
	}
	if !asItWas() {
		t.Fatalf("%v: the answer shares memory with the book that was handed in: %v", what, asked)
	}
	return answer
}

// bookDo is BookDo, with its memory looked at.
func bookDo(t *testing.T, b impl.Book, op impl.BookOp) (impl.Book, int, int) {
	t.Helper()
	var code, val int
	x := answered(t, op, b, func(b impl.Book) (x impl.Book) {
		x, code, val = impl.BookDo(b, op)
		return x
	})
	return x, code, val
}

// bookCut is BookCut, with its memory looked at.
func bookCut(t *testing.T, b impl.Book, slot int) impl.Book {
	t.Helper()
	return answered(t, slot, b, func(b impl.Book) impl.Book { return impl.BookCut(b, slot) })
}

// From here on: the chapter once more, as plainly as can be, for the program to
// be held against. It is asked of books that are ok alone, but for modelOk.

func between(n int, least int, most int) bool { return n >= least && n <= most }

func modelOpen(slots int, pages int) impl.Book {
	return impl.Book{Slots: slots, Pages: make([]int, pages), Owner: make([]int, 8*pages), In: make([]int, slots), Epoch: make([]int, slots)}
}

func modelOk(b impl.Book) bool {
	if !between(b.Slots, 1, 4) || !between(len(b.Pages), 1, 6) || len(b.Owner) != 8*len(b.Pages) || len(b.In) != b.Slots || len(b.Epoch) != b.Slots {
		return false
	}
	for slot := range b.Slots {
		if !between(b.In[slot], 0, 2) || !between(b.Epoch[slot], 0, 4095) || b.In[slot] != 0 && b.Epoch[slot] == 0 {
			return false
		}
	}
	// What each unit must be: 'o' an owner, 'f' in Heads once, 'e' either, '.' neither.
	var want []byte
	for page := 0; page < len(b.Pages); {
		what := b.Pages[page]
		one := map[int]string{0: "........", 1: "eeeeeeee", 2: "e.e.e.e.", 3: "e...e...", 4: "e......."}[what]
		if one != "" {
			if what != 0 && slices.Max(b.Owner[8*page:8*page+8]) == 0 {
				return false
			}
			want = append(want, one...)
			page++
			continue
		}
		if !between(what, 10, 12) || len(b.Pages)-page < what-8 {
			return false
		}
		for i := 1; i < what-8; i++ {
			if b.Pages[page+i] != 7 {
				return false
			}
		}
		want = append(want, "o"...)
		want = append(want, slices.Repeat([]byte("."), 8*(what-8)-1)...)
		page += what - 8
	}
	return modelUnitsOk(b, want)
}

func modelUnitsOk(b impl.Book, want []byte) bool {
	stands := map[int]int{}
	for kind, heads := range b.Heads {
		if len(heads) > len(b.Owner) {
			return false
		}
		for _, unit := range heads {
			if unit < 0 || unit >= len(b.Owner) || b.Pages[unit/8] != kind+1 {
				return false
			}
			stands[unit]++
		}
	}
	for unit, owner := range b.Owner {
		if owner < 0 || owner > b.Slots || owner > 0 && b.In[owner-1] == 0 {
			return false
		}
		free := stands[unit]
		switch want[unit] {
		case 'o':
			if owner == 0 || free != 0 {
				return false
			}
		case 'e':
			if !(owner != 0 && free == 0 || owner == 0 && free == 1) {
				return false
			}
		case '.':
			if owner != 0 || free != 0 {
				return false
			}
		}
	}
	return true
}

func modelKind(units int) int {
	switch {
	case units == 1:
		return 0
	case units == 2:
		return 1
	case units == 3 || units == 4:
		return 2
	case units >= 5 && units <= 8:
		return 3
	case units >= 9 && units <= 32:
		return 4
	}
	return -1
}

func modelRoom(b impl.Book, at int) int {
	if at < 0 || at >= len(b.Owner) || b.Owner[at] == 0 {
		return 0
	}
	return map[int]int{1: 1, 2: 2, 3: 4, 4: 8, 10: 16, 11: 24, 12: 32}[b.Pages[at/8]]
}

func modelOf(b impl.Book, slot int) []int {
	var rooms []int
	for unit := range b.Owner {
		if slot >= 0 && slot < b.Slots && b.Owner[unit] == slot+1 {
			rooms = append(rooms, unit)
		}
	}
	return rooms
}

func modelIn(b impl.Book, slot int) bool { return slot >= 0 && slot < b.Slots && b.In[slot] != 0 }

func modelCut(b impl.Book, slot int) impl.Book {
	b = copyOf(b)
	if modelIn(b, slot) {
		b.In[slot] = cut
	}
	return b
}

// modelRow is the first of so many empty pages side by side.
func modelRow(b impl.Book, many int) int {
	for page := 0; page+many <= len(b.Pages); page++ {
		if slices.Max(b.Pages[page:page+many]) == 0 {
			return page
		}
	}
	return -1
}

func modelTake(b impl.Book, slot int, units int) (impl.Book, int, int) {
	kind := modelKind(units)
	if kind < 0 {
		return b, codeSize, 0
	}
	x := copyOf(b)
	if kind == 4 {
		many := map[bool]int{true: 2, false: 3}[units <= 16]
		if units > 24 {
			many = 4
		}
		page := modelRow(b, many)
		if page < 0 {
			return b, codeFull, 0
		}
		copy(x.Pages[page:], append([]int{8 + many}, slices.Repeat([]int{7}, many-1)...))
		x.Owner[8*page] = slot + 1
		return x, codeDone, 8 * page
	}
	if len(x.Heads[kind]) == 0 {
		page := modelRow(b, 1)
		if page < 0 {
			return b, codeFull, 0
		}
		x.Pages[page] = kind + 1
		for n := 0; n < 8; n += []int{1, 2, 4, 8}[kind] {
			x.Heads[kind] = append(x.Heads[kind], 8*page+n)
		}
	}
	unit := x.Heads[kind][0]
	x.Heads[kind] = x.Heads[kind][1:]
	x.Owner[unit] = slot + 1
	return x, codeDone, unit
}

func modelBack(b impl.Book, at int) impl.Book {
	x := copyOf(b)
	page, what := at/8, b.Pages[at/8]
	x.Owner[at] = 0
	if what > 8 {
		copy(x.Pages[page:], make([]int, what-8))
		return x
	}
	x.Heads[what-1] = slices.Insert(x.Heads[what-1], 0, at)
	if slices.Max(x.Owner[8*page:8*page+8]) == 0 {
		x.Heads[what-1] = slices.DeleteFunc(x.Heads[what-1], func(unit int) bool { return unit/8 == page })
		x.Pages[page] = 0
	}
	return x
}

func modelDo(b impl.Book, op impl.BookOp) (impl.Book, int, int) {
	if op.Slot < 0 || op.Slot >= b.Slots {
		return b, codeNone, 0
	}
	x := copyOf(b)
	if op.Kind == enters {
		switch {
		case b.In[op.Slot] != 0:
			return b, codeTaken, 0
		case b.Epoch[op.Slot] == 4095:
			return b, codeWorn, 0
		}
		x.In[op.Slot] = 1
		x.Epoch[op.Slot]++
		return x, codeDone, x.Epoch[op.Slot]
	}
	if b.In[op.Slot] == 0 {
		return b, codeNobody, 0
	}
	switch op.Kind {
	case takes:
		return modelTake(b, op.Slot, op.A)
	case gives, hands:
		return modelPass(b, op)
	case leaves:
		if len(modelOf(b, op.Slot)) != 0 {
			return b, codeKeeps, 0
		}
		x.In[op.Slot] = 0
		return x, codeDone, 0
	case reaps:
		return modelReap(b, op.A)
	}
	return b, codeNone, 0
}

func modelPass(b impl.Book, op impl.BookOp) (impl.Book, int, int) {
	switch {
	case modelRoom(b, op.A) == 0:
		return b, codeWhere, 0
	case b.Owner[op.A] != op.Slot+1:
		return b, codeWhose, 0
	case op.Kind == gives:
		return modelBack(b, op.A), codeDone, 0
	case !modelIn(b, op.B):
		return b, codeWhom, 0
	}
	x := copyOf(b)
	x.Owner[op.A] = op.B + 1
	return x, codeDone, 0
}

func modelReap(b impl.Book, slot int) (impl.Book, int, int) {
	if !modelIn(b, slot) {
		return b, codeNobody, 0
	}
	if b.In[slot] == live {
		return b, codeLives, 0
	}
	if rooms := modelOf(b, slot); len(rooms) != 0 {
		return modelBack(b, rooms[0]), codeMore, rooms[0]
	}
	x := copyOf(b)
	x.In[slot] = 0
	return x, codeDone, 0
}

// dice are numbers that look thrown, the same ones in each run.
type dice uint64

func (d *dice) below(n int) int {
	*d = *d*6364136223846793005 + 1442695040888963407
	return int(uint64(*d) >> 33 % uint64(n))
}

// anyOp is a call that is as often sensible as not.
func (d *dice) anyOp(b impl.Book) impl.BookOp {
	op := impl.BookOp{Kind: d.below(9) - 1, Slot: d.below(b.Slots+2) - 1, B: d.below(b.Slots+2) - 1}
	if d.below(4) > 0 {
		op.Kind, op.Slot = takes+d.below(3), d.below(b.Slots)
	}
	switch op.Kind {
	case takes:
		op.A = d.below(36) - 1
		if d.below(2) > 0 {
			op.A = 1 + d.below(8)
		}
	case reaps:
		op.A = d.below(b.Slots+2) - 1
	default:
		op.A = d.below(len(b.Owner)+2) - 1
		if rooms := modelOf(b, op.Slot); len(rooms) > 0 && d.below(4) > 0 {
			op.A = rooms[d.below(len(rooms))]
		}
	}
	return op
}

// walked are books that can come about in a house, by calls and cuts of the
// model, thrown; some have nearly all epochs behind them.
func walked(slots int, pages int, steps int) []impl.Book {
	d := dice(1000*slots + pages)
	b := modelOpen(slots, pages)
	for slot := range slots {
		b.Epoch[slot] = []int{0, 4090, 4094, 7}[slot]
	}
	books := []impl.Book{b}
	for range steps {
		op := d.anyOp(b)
		switch d.below(40) {
		case 0:
			b = modelCut(b, d.below(slots))
		case 1, 2, 3, 4, 5:
			op = impl.BookOp{Kind: enters, Slot: d.below(slots)}
		case 6, 7, 8, 9, 10, 11, 12, 13, 14, 15:
			op = impl.BookOp{Kind: takes, Slot: d.below(slots), A: 1 + d.below(4)}
		}
		x, code, _ := modelDo(b, op)
		b = x
		if code == codeDone || code == codeMore {
			books = append(books, b)
		}
	}
	return books
}

// someBooks are books of all houses: those that walks lead to, every so many.
func someBooks(steps int, every int) []impl.Book {
	var books []impl.Book
	for slots := 1; slots <= 4; slots++ {
		for pages := 1; pages <= 6; pages++ {
			for i, b := range walked(slots, pages, steps) {
				if i%every == 0 {
					books = append(books, b)
				}
			}
		}
	}
	return books
}

// numbersThatAreNone of so many: at -1, at the first that is none, and at the
// ends of int.
func numbersThatAreNone(many int) []int {
	return []int{math.MinInt, math.MinInt + 1, -many, -1, many, many + 1, 1 << 32, 1 << 61, math.MaxInt - 1, math.MaxInt}
}
