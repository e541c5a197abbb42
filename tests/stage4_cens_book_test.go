package tests

import (
	"math"
	"slices"
	"strconv"
	"testing"

	"loop.example/hostel/impl"
)

// booksAsked are books by hand and books that walks lead to, of all houses.
func booksAsked(steps int, every int) []impl.Book {
	books := []impl.Book{bookOfKinds(), bookOfRows(), bookOfThree()}
	for slots := 1; slots <= mostSlots; slots++ {
		for pages := 1; pages <= mostPages; pages++ {
			books = append(books, modelOpen(slots, pages))
		}
	}
	return append(books, someBooks(steps, every)...)
}

// Each value by hand, for a book with all kinds of rooms.
func TestValuesInFigures(t *testing.T) {
	want := make([]int, 117)
	set := func(at int, values ...int) { copy(want[at:], values) }
	set(3, 1+4*1, 2+4*4095, 1+4*9, 0+4*7) // the register; beats from 7 on
	set(11, 8, 15, 21, 0)                 // heads
	set(15, 1, 2, 3, 4, 10, 7)            // pages
	set(21, 0, 1, 2)                      // owners
	set(21+8, 0, 0, 1, 0, 2)
	set(21+16, 1)
	set(21+24, 2)
	set(21+32, 1)
	set(69, 4, 0, 0, 5, 6, 7, 0, 1) // links: 7, 0, 3, 4, 5, 6
	set(69+8, 0, 0, 0, 0, 0, 0, 9)  // 14, 8
	c := impl.PlatCfg{Slots: 4, Pages: 6, Lease: 20}
	if got := censLay(t, c, bookOfKinds()); !slices.Equal(got, want) {
		t.Errorf("%v, not %v", got, want)
	}
	want = make([]int, 7+4+17*6)
	set = func(at int, values ...int) { copy(want[at:], values) }
	set(4, 1+4*3)
	set(11, 0, 12, 7, 7, 7, 0)
	set(17+8, 2)
	c = impl.PlatCfg{Slots: 2, Pages: 6, Lease: 1}
	if got := censLay(t, c, bookOfRows()); !slices.Equal(got, want) {
		t.Errorf("%v, not %v", got, want)
	}
}

// Each value of many books at its place, 0 for the first three words, for beats
// and for all links of what is not free.
func TestValuesOfManyBooks(t *testing.T) {
	for i, b := range booksAsked(400, 20) {
		c := houseOf(b, 1+i%mostLease)
		got := censLay(t, c, b)
		if len(got) != deskAt(c, 0) || !slices.Equal(got, modelLay(b)) {
			t.Fatalf("%v: %v: %v", c, b, got)
		}
		for at := range 3 {
			if got[at] != 0 {
				t.Fatalf("%v: word %d has %d", c, at, got[at])
			}
		}
		for slot := range c.Slots {
			if got[beatAt(c, slot)] != 0 {
				t.Fatalf("%v: beat %d has %d", c, slot, got[beatAt(c, slot)])
			}
		}
	}
}

// No values where the house is not ok, the book is not, or one is not the
// other's.
func TestNoValues(t *testing.T) {
	none := func(why string, c impl.PlatCfg, b impl.Book) {
		t.Helper()
		if got := censLay(t, c, b); len(got) != 0 {
			t.Errorf("%s: %v has %v", why, c, got)
		}
	}
	for _, c := range wrongHouses() {
		none("a house that is not ok", c, bookOfKinds())
		none("a house that is not ok", c, modelOpen(1, 1))
		none("a house that is not ok", c, modelOpen(2, 3))
		none("a house that is not ok, and nothing", c, impl.Book{})
	}
	for name, b := range notOkBooks() {
		none(name, houseOf(b, 3), b)
		none(name, impl.PlatCfg{Slots: 4, Pages: 6, Lease: 3}, b)
		none(name, impl.PlatCfg{Slots: 1, Pages: 1, Lease: 3}, b)
	}
	for _, c := range everyHouse() {
		if c.Lease != 1 && c.Lease != mostLease {
			continue
		}
		for slots := 1; slots <= mostSlots; slots++ {
			for pages := 1; pages <= mostPages; pages++ {
				if slots != c.Slots || pages != c.Pages {
					none("a book of another house", c, modelOpen(slots, pages))
				}
			}
		}
	}
}

// P11: the book is read again, whatever the stamps are, and whatever stands in
// the clock, the door, the beats and the desks, or without desks.
func TestBooksAreReadAgain(t *testing.T) {
	d := dice(11)
	for i, b := range booksAsked(400, 15) {
		c := houseOf(b, 1+i%mostLease)
		w := make([]uint64, sizeOf(c))
		for at := range w {
			w[at] = wordOf(d.below(math.MaxInt32), d.below(math.MaxInt32))
		}
		for at, val := range impl.CensLay(c, b) {
			beat := at >= beatAt(c, 0) && at < beatAt(c, c.Slots)
			if at > doorAt && !beat {
				w[at] = wordOf(val, stampOf(w[at]))
			}
		}
		w[0] = firstOf(c)
		for _, words := range [][]uint64{w, withoutDesks(c, w)} {
			if got, ok := censBook(t, words); !ok || !alike(got, b) {
				t.Fatalf("%v: %d words: %v, %v, not %v", c, len(words), ok, got, b)
			}
		}
	}
}

// Stamps are no matter at all, at their ends too.
func TestStampsAreNoMatter(t *testing.T) {
	b := bookOfKinds()
	c := houseOf(b, 4)
	for _, stamp := range []int{0, 1, 3, magic, mostHalf - 1, mostHalf} {
		w := standing(c, b, func(int) int { return stamp })
		if got, ok := censBook(t, w); !ok || !alike(got, b) {
			t.Errorf("stamp %d: %v, %v", stamp, ok, got)
		}
	}
}

// P11: no two books have the same words; books of one small house, all that
// calls lead to, are told apart by their values.
func TestNoTwoBooksHaveTheSameWords(t *testing.T) {
	met, values := map[string]int{}, map[string]int{}
	meet := func(b impl.Book) {
		var name []byte
		for _, val := range impl.CensLay(houseOf(b, 1), b) {
			name = strconv.AppendInt(name, int64(val), 10)
			name = append(name, ' ')
		}
		met[nameOf(b)]++
		values[string(name)]++
	}
	for _, b := range booksAsked(2000, 1) {
		meet(b)
	}
	if len(met) != len(values) || len(met) < 5000 {
		t.Errorf("%d books have %d rows of values", len(met), len(values))
	}
}

// The desks may be missing, but all of them.
func TestWordsOfNoHouseHaveNoBook(t *testing.T) {
	for _, c := range []impl.PlatCfg{{Slots: 1, Pages: 1, Lease: 1}, {Slots: 2, Pages: 3, Lease: 20}, {Slots: 4, Pages: 6, Lease: 7}} {
		w := standing(c, modelOpen(c.Slots, c.Pages), stampThree)
		w = append(w, make([]uint64, 30)...)
		for n := range w {
			_, ok := censBook(t, w[:n])
			if want := n == sizeOf(c) || n == deskAt(c, 0); ok != want {
				t.Errorf("%v: %d words: %v", c, n, ok)
			}
			_, ok = censTrue(t, w[:n])
			if want := n == sizeOf(c); ok != want {
				t.Errorf("%v: true book of %d words: %v", c, n, ok)
			}
		}
	}
}

// wrongFirstWords are first words that are not those of a house.
func wrongFirstWords(c impl.PlatCfg) []uint64 {
	first := firstOf(c)
	words := []uint64{0, wordOf(valOf(first), 0), wordOf(valOf(first), magic-1), wordOf(valOf(first), magic+1),
		wordOf(0, magic), wordOf(mostHalf, magic), firstOf(impl.PlatCfg{Slots: c.Slots, Pages: c.Pages}),
		firstOf(impl.PlatCfg{Slots: c.Slots, Pages: c.Pages, Lease: mostLease + 1})}
	for _, other := range everyHouse() {
		if other.Slots != c.Slots || other.Pages != c.Pages {
			words = append(words, firstOf(other))
		}
	}
	return words
}

func TestOtherFirstWords(t *testing.T) {
	c := impl.PlatCfg{Slots: 2, Pages: 3, Lease: 9}
	w := standing(c, modelOpen(2, 3), stampThree)
	for _, first := range wrongFirstWords(c) {
		w[0] = first
		if got, ok := censBook(t, w); ok {
			t.Errorf("first word %x: %v", first, got)
		}
		// Words without desks of one house may be as many as those of none other.
		if got, ok := censBook(t, withoutDesks(c, w)); ok {
			t.Errorf("first word %x, without desks: %v", first, got)
		}
	}
	if _, ok := censBook(t, nil); ok {
		t.Error("no words at all")
	}
}

// turnedWords are words that stand for a book, each with one thing turned.
func turnedWords(c impl.PlatCfg) map[string]map[int]int {
	return map[string]map[int]int{
		"state 3 in the register":          {regAt(c, 3): 3 + 4*7},
		"in without an epoch":              {regAt(c, 2): 1},
		"an epoch past the last":           {regAt(c, 3): 4 * 4096},
		"an owner who is not in":           {regAt(c, 0): 4 * 1},
		"the greatest value":               {regAt(c, 3): mostHalf},
		"an owner past the slots":          {tagAt(c, 1): 5},
		"an owner where nobody is in":      {tagAt(c, 1): 4},
		"an owner of a free room":          {tagAt(c, 7): 1},
		"an owner where no room begins":    {tagAt(c, 9): 1},
		"a room without an owner":          {tagAt(c, 1): 0},
		"no owner of whole pages":          {tagAt(c, 32): 0},
		"an owner within whole pages":      {tagAt(c, 40): 1},
		"a page of another kind":           {pageAt(c, 3): 3},
		"a page that is empty":             {pageAt(c, 3): 0},
		"a page that is no page":           {pageAt(c, 3): 5},
		"a page that goes on":              {pageAt(c, 3): 7},
		"whole pages past the end":         {pageAt(c, 4): 11},
		"whole pages without a rest":       {pageAt(c, 5): 0},
		"a head that is 0":                 {headAt(c, 1): 0},
		"a head that leads past a room":    {headAt(c, 0): 1},
		"a head of the first past the end": {headAt(c, 3): 49},
		"a head of the greatest value":     {headAt(c, 3): mostHalf},
		"a head of another list":           {headAt(c, 3): 21},
		"heads of two kinds turned round":  {headAt(c, 0): 15, headAt(c, 1): 8},
		"a list that goes round at once":   {linkAt(c, 20): 21},
		"a list that goes round":           {linkAt(c, 6): 8},
		"a list that goes round by two":    {linkAt(c, 8): 15},
		"a list that goes round inside":    {linkAt(c, 6): 4},
		"a list that leads to another":     {linkAt(c, 6): 15},
		"a list that leads to another's":   {linkAt(c, 20): 9},
		"to a unit that is no first unit":  {linkAt(c, 8): 12},
		"to a unit that has an owner":      {linkAt(c, 8): 11},
		"to a page of another kind":        {linkAt(c, 8): 25},
		"to a page of whole pages":         {linkAt(c, 8): 33},
		"to the first past the end":        {linkAt(c, 8): 49},
		"to the greatest value":            {linkAt(c, 8): mostHalf},
		"a list that ends too early":       {linkAt(c, 3): 0},
		"a link of a room with an owner":   {linkAt(c, 1): 2},
		"a link to a room with an owner":   {linkAt(c, 10): 8},
		"a link where no room begins":      {linkAt(c, 9): 15},
		"a link on a page of whole pages":  {linkAt(c, 32): 1},
		"a link at the last unit":          {linkAt(c, 47): 1},
		"a free room in no list":           {linkAt(c, 7): 4, linkAt(c, 0): 0},
	}
}

func TestNoBookOfTurnedWords(t *testing.T) {
	b := bookOfKinds()
	c := houseOf(b, 5)
	for name, how := range turnedWords(c) {
		w := standing(c, b, stampThree)
		for at, val := range how {
			w[at] = wordOf(val, 3)
		}
		for _, words := range [][]uint64{w, withoutDesks(c, w)} {
			if got, ok := censBook(t, words); ok {
				t.Errorf("%s: %v", name, got)
			}
		}
	}
}

// An empty house with one value turned stands for no book, but where it says
// who came in.
func TestAnEmptyHouseTurned(t *testing.T) {
	for _, c := range []impl.PlatCfg{{Slots: 1, Pages: 1, Lease: 1}, {Slots: 4, Pages: 6, Lease: 20}} {
		for at := 1; at < deskAt(c, 0); at++ {
			for _, val := range []int{1, 2, 3, 4, 5, 7, 8, 10, 4095, mostVal, mostHalf} {
				w := impl.PlatFormat(c)
				w[at] = wordOf(val, 2)
				seeBook(t, strconv.Itoa(at), w, c)
			}
		}
	}
}

// Every value of every word turned into every value that may mean something,
// held against the model; some of them stand for another book.
func TestEveryValueTurned(t *testing.T) {
	t.Parallel()
	books := append(booksAsked(300, 150), modelOpen(1, 1))
	stood := 0
	for i, b := range books {
		c := houseOf(b, 1+i%mostLease)
		w := standing(c, b, stampThree)
		for at := 1; at < deskAt(c, 0); at++ {
			was := w[at]
			for val := range 8*c.Pages + 4 {
				w[at] = wordOf(val, 9)
				if seeBook(t, strconv.Itoa(at), w, c) {
					stood++
				}
			}
			for _, val := range []int{valOf(was) + 4, valOf(was) ^ 3, valOf(was) + 1<<20, 4 * 4095, 4 * 4096, mostHalf - 1, mostHalf} {
				w[at] = wordOf(val, 9)
				seeBook(t, strconv.Itoa(at), w, c)
			}
			w[at] = was
		}
	}
	if stood < 1000 {
		t.Error("too few stood for a book:", stood)
	}
}

// Links thrown at random: what is no book is none, and what is one is read.
func TestLinksThrown(t *testing.T) {
	d := dice(4)
	for i, b := range booksAsked(300, 30) {
		c := houseOf(b, 1+i%mostLease)
		for range 20 {
			w := standing(c, b, stampThree)
			for range 1 + d.below(3) {
				w[linkAt(c, d.below(8*c.Pages))] = wordOf(d.below(8*c.Pages+2), 3)
				w[headAt(c, d.below(allKinds))] = wordOf(d.below(8*c.Pages+2), 3)
			}
			seeBook(t, "thrown", w, c)
		}
	}
}

// The longest list that there is: all rooms of the least kind but one a page,
// and it may be in any order.
func TestTheLongestList(t *testing.T) {
	b := modelOpen(1, 6)
	b.In[0], b.Epoch[0] = 1, 1
	for page := range 6 {
		b.Pages[page] = 1
		b.Owner[8*page+page] = 1
	}
	for i := range 48 {
		if unit := i * 5 % 48; b.Owner[unit] == 0 {
			b.Heads[0] = append(b.Heads[0], unit)
		}
	}
	c := houseOf(b, 1)
	w := standing(c, b, stampThree)
	if got, ok := censBook(t, w); !ok || !alike(got, b) || len(got.Heads[0]) != 42 {
		t.Errorf("%v: %v", ok, got)
	}
	// All 48 units in one list, of which the last leads to the first again.
	for unit := range 48 {
		w[linkAt(c, unit)] = wordOf((unit+1)%48+1, 3)
	}
	seeBook(t, "all units go round", w, c)
}
