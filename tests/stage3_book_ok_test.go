package tests

import (
	"math"
	"slices"
	"strconv"
	"testing"

	"loop.example/hostel/impl"
)

// bookOfKinds has a page of each kind of rooms, and a room of two pages. Slot 0
// is in, slot 1 was cut off, slot 2 is in without rooms, slot 3 was in once.
func bookOfKinds() impl.Book {
	return impl.Book{
		Slots: 4,
		Pages: []int{1, 2, 3, 4, 10, 7},
		Heads: [4][]int{{7, 0, 3, 4, 5, 6}, {14, 8}, {20}, nil},
		Owner: []int{
			0, 1, 2, 0, 0, 0, 0, 0,
			0, 0, 1, 0, 2, 0, 0, 0,
			1, 0, 0, 0, 0, 0, 0, 0,
			2, 0, 0, 0, 0, 0, 0, 0,
			1, 0, 0, 0, 0, 0, 0, 0,
			0, 0, 0, 0, 0, 0, 0, 0,
		},
		In:    []int{1, 2, 1, 0},
		Epoch: []int{1, 4095, 9, 7},
	}
}

// bookOfRows has an empty page, a room of four pages, and another empty page.
func bookOfRows() impl.Book {
	b := modelOpen(2, 6)
	b.Pages = []int{0, 12, 7, 7, 7, 0}
	b.Owner[8] = 2
	b.In, b.Epoch = []int{0, 1}, []int{0, 3}
	return b
}

// bookOfThree has a room of three pages at its very end, behind two pages of
// one kind, between which the free rooms go to and fro.
func bookOfThree() impl.Book {
	b := modelOpen(1, 5)
	b.Pages = []int{2, 2, 11, 7, 7}
	b.Heads[1] = []int{14, 0, 8, 4}
	b.Owner[2], b.Owner[6], b.Owner[10], b.Owner[12], b.Owner[16] = 1, 1, 1, 1, 1
	b.In, b.Epoch = []int{2}, []int{4095}
	return b
}

func TestBooksThatAreOk(t *testing.T) {
	for name, b := range map[string]impl.Book{"kinds": bookOfKinds(), "rows": bookOfRows(), "three": bookOfThree()} {
		lent, asItWas := lend(b)
		if !impl.BookOk(lent) || !modelOk(b) || !asItWas() {
			t.Errorf("%s: not ok: %v", name, b)
		}
	}
	for _, c := range everyHouse() {
		if b := modelOpen(c.Slots, c.Pages); !impl.BookOk(b) {
			t.Errorf("%v: not ok when it is empty", c)
		}
	}
	// Whoever was in before may have been so up to the last epoch, or never.
	for _, epoch := range []int{0, 1, 4094, 4095} {
		b := bookOfKinds()
		b.Epoch[3] = epoch
		if !impl.BookOk(b) {
			t.Errorf("epoch %d of a slot where nobody is in: not ok", epoch)
		}
	}
}

// turn is a copy of a book with something turned.
func turn(b impl.Book, how func(b *impl.Book)) impl.Book {
	b = copyOf(b)
	how(&b)
	return b
}

// brokenSlots break what a book says of slots and of how long its lists are.
func brokenSlots() map[string]func(b *impl.Book) {
	return map[string]func(b *impl.Book){
		"Slots 0":               func(b *impl.Book) { b.Slots = 0 },
		"Slots 3":               func(b *impl.Book) { b.Slots = 3 },
		"Slots 5":               func(b *impl.Book) { b.Slots = 5 },
		"Slots below 0":         func(b *impl.Book) { b.Slots = -4 },
		"Slots greatest":        func(b *impl.Book) { b.Slots = math.MaxInt },
		"Slots least":           func(b *impl.Book) { b.Slots = math.MinInt },
		"no Pages":              func(b *impl.Book) { b.Pages = nil },
		"Pages too short":       func(b *impl.Book) { b.Pages = b.Pages[:4] },
		"Pages too long":        func(b *impl.Book) { b.Pages = append(b.Pages, 0) },
		"Pages far too long":    func(b *impl.Book) { b.Pages = make([]int, 1<<20) },
		"no Owner":              func(b *impl.Book) { b.Owner = nil },
		"Owner too short":       func(b *impl.Book) { b.Owner = b.Owner[:47] },
		"Owner a page short":    func(b *impl.Book) { b.Owner = b.Owner[:40] },
		"Owner too long":        func(b *impl.Book) { b.Owner = append(b.Owner, 0) },
		"Owner far too long":    func(b *impl.Book) { b.Owner = append(b.Owner, make([]int, 1<<20)...) },
		"no In":                 func(b *impl.Book) { b.In = nil },
		"In too short":          func(b *impl.Book) { b.In = b.In[:3] },
		"In too long":           func(b *impl.Book) { b.In = append(b.In, 0) },
		"In far too long":       func(b *impl.Book) { b.In = append(b.In, make([]int, 1<<20)...) },
		"no Epoch":              func(b *impl.Book) { b.Epoch = nil },
		"Epoch too short":       func(b *impl.Book) { b.Epoch = b.Epoch[:3] },
		"Epoch too long":        func(b *impl.Book) { b.Epoch = append(b.Epoch, 0) },
		"Epoch far too long":    func(b *impl.Book) { b.Epoch = append(b.Epoch, make([]int, 1<<20)...) },
		"In and Epoch too long": func(b *impl.Book) { b.In, b.Epoch = append(b.In, 0), append(b.Epoch, 0) },
		"In 3":                  func(b *impl.Book) { b.In[2] = 3 },
		"In below 0":            func(b *impl.Book) { b.In[3] = -1 },
		"In greatest":           func(b *impl.Book) { b.In[0] = math.MaxInt },
		"In least":              func(b *impl.Book) { b.In[0] = math.MinInt },
		"Epoch below 0":         func(b *impl.Book) { b.Epoch[3] = -1 },
		"Epoch 4096":            func(b *impl.Book) { b.Epoch[3] = 4096 },
		"Epoch greatest":        func(b *impl.Book) { b.Epoch[0] = math.MaxInt },
		"Epoch least":           func(b *impl.Book) { b.Epoch[0] = math.MinInt },
		"Epoch 0 of a guest":    func(b *impl.Book) { b.Epoch[2] = 0 },
		"Epoch 0 of one cut":    func(b *impl.Book) { b.Epoch[1] = 0 },
		"owners, nobody in":     func(b *impl.Book) { b.In[0] = 0 },
		"cut owners, nobody in": func(b *impl.Book) { b.In[1] = 0 },
		"an owner, nobody in":   func(b *impl.Book) { b.Owner[1] = 4 },
		"an owner past Slots":   func(b *impl.Book) { b.Owner[1] = 5 },
		"an owner below 0":      func(b *impl.Book) { b.Owner[1] = -1 },
		"an owner greatest":     func(b *impl.Book) { b.Owner[1] = math.MaxInt },
		"an owner least":        func(b *impl.Book) { b.Owner[1] = math.MinInt },
	}
}

// brokenRooms break what a book says of rooms within pages.
func brokenRooms() map[string]func(b *impl.Book) {
	put := func(kind int, unit int) func(b *impl.Book) {
		return func(b *impl.Book) { b.Heads[kind] = append(b.Heads[kind], unit) }
	}
	return map[string]func(b *impl.Book){
		"Heads: no first unit":            put(1, 9),
		"Heads: no first unit of kind 2":  put(2, 18),
		"Heads: no first unit of kind 3":  put(3, 28),
		"Heads: twice, one by the other":  func(b *impl.Book) { b.Heads[0] = []int{7, 7, 0, 3, 4, 5, 6} },
		"Heads: twice, at both ends":      put(0, 7),
		"Heads: twice, instead of one":    func(b *impl.Book) { b.Heads[1] = []int{14, 14} },
		"Heads: has an owner":             put(0, 1),
		"Heads: a whole page, owned":      put(3, 24),
		"Heads: another kind's page":      put(0, 20),
		"Heads: a lesser kind's page":     put(3, 0),
		"Heads: twice, in two kinds":      put(0, 14),
		"Heads: in the wrong kind alone":  func(b *impl.Book) { b.Heads[2], b.Heads[3] = nil, []int{20} },
		"Heads: kinds swapped":            func(b *impl.Book) { b.Heads[0], b.Heads[1] = b.Heads[1], b.Heads[0] },
		"Heads: a room of pages":          put(3, 32),
		"Heads: a BookRest":               put(3, 40),
		"Heads: -1":                       put(0, -1),
		"Heads: past the end":             put(3, 48),
		"Heads: greatest":                 put(0, math.MaxInt),
		"Heads: least":                    put(3, math.MinInt),
		"Heads: below 0, in step":         put(2, -4),
		"Heads: one is missing":           func(b *impl.Book) { b.Heads[0] = b.Heads[0][1:] },
		"Heads: all are missing":          func(b *impl.Book) { b.Heads = [4][]int{} },
		"Heads: all of a kind missing":    func(b *impl.Book) { b.Heads[2] = nil },
		"Heads: far too long":             func(b *impl.Book) { b.Heads[3] = make([]int, 1<<20) },
		"Heads: one longer than Owner":    func(b *impl.Book) { b.Heads[0] = slices.Repeat([]int{0}, 49) },
		"Heads: as long as Owner":         func(b *impl.Book) { b.Heads[0] = slices.Repeat([]int{0}, 48) },
		"a first unit in neither":         func(b *impl.Book) { b.Owner[1] = 0 },
		"an owner where none may be":      func(b *impl.Book) { b.Owner[9] = 1 },
		"an owner within a room":          func(b *impl.Book) { b.Owner[17] = 1 },
		"an owner within a free room":     func(b *impl.Book) { b.Owner[23] = 1 },
		"an owner within a whole page":    func(b *impl.Book) { b.Owner[31] = 2 },
		"an owner of a room that is free": func(b *impl.Book) { b.Owner[20] = 1 },
		"a page of a kind, no owner":      func(b *impl.Book) { b.Owner[16], b.Heads[2] = 0, []int{20, 16} },
		"a whole page, no owner":          func(b *impl.Book) { b.Owner[24], b.Heads[3] = 0, []int{24} },
		"a whole page, in neither":        func(b *impl.Book) { b.Owner[24] = 0 },
		"another kind said, lesser":       func(b *impl.Book) { b.Pages[3] = 3 },
		"another kind said, greater":      func(b *impl.Book) { b.Pages[2] = 4 },
		"an empty page with an owner":     func(b *impl.Book) { b.Pages[3] = empty },
		"an empty page with free rooms":   func(b *impl.Book) { b.Pages[2], b.Owner[16], b.Heads[2] = empty, 0, []int{20} },
		"a page that says 5":              func(b *impl.Book) { b.Pages[3] = 5 },
		"a page that says 6":              func(b *impl.Book) { b.Pages[3] = 6 },
		"a page that says 8":              func(b *impl.Book) { b.Pages[3] = 8 },
		"a page that says -1":             func(b *impl.Book) { b.Pages[3] = -1 },
		"a page that says the greatest":   func(b *impl.Book) { b.Pages[3] = math.MaxInt },
		"a page that says the least":      func(b *impl.Book) { b.Pages[3] = math.MinInt },
	}
}

// brokenRows break what a book says of rooms of whole pages; they are for
// bookOfRows, whose room begins at page 1 and has four.
func brokenRows() map[string]func(b *impl.Book) {
	pages := func(what ...int) func(b *impl.Book) {
		return func(b *impl.Book) { b.Pages = what }
	}
	return map[string]func(b *impl.Book){
		"1 page":                    pages(0, 9, 0, 0, 0, 0),
		"5 pages":                   pages(0, 13, 7, 7, 7, 7),
		"0 pages":                   pages(0, 8, 0, 0, 0, 0),
		"greatest":                  pages(0, math.MaxInt, 7, 7, 7, 0),
		"least":                     pages(0, math.MinInt, 7, 7, 7, 0),
		"a page less than is said":  pages(0, 12, 7, 7, 0, 0),
		"a page more than is said":  pages(0, 12, 7, 7, 7, 7),
		"three said, four there":    pages(0, 11, 7, 7, 7, 0),
		"no pages behind":           pages(0, 12, 0, 0, 0, 0),
		"a gap within":              pages(0, 12, 7, 0, 7, 0),
		"a room within":             pages(0, 12, 10, 7, 7, 0),
		"a page of rooms within":    pages(0, 12, 7, 7, 1, 0),
		"BookRest ahead":            pages(7, 12, 7, 7, 7, 0),
		"BookRest alone":            pages(0, 7, 0, 0, 0, 0),
		"BookRest at the beginning": pages(7, 0, 0, 0, 0, 0),
		"BookRest at the end":       pages(0, 12, 7, 7, 7, 7),
		"all BookRest":              pages(7, 7, 7, 7, 7, 7),
		"no owner":                  func(b *impl.Book) { b.Owner[8] = 0 },
		"an owner within":           func(b *impl.Book) { b.Owner[9] = 2 },
		"an owner of its next page": func(b *impl.Book) { b.Owner[16] = 2 },
		"an owner at its last unit": func(b *impl.Book) { b.Owner[39] = 2 },
		"an owner further in alone": func(b *impl.Book) { b.Owner[8], b.Owner[16] = 0, 2 },
		"an owner of an empty page": func(b *impl.Book) { b.Owner[0] = 2 },
		"an owner of the last page": func(b *impl.Book) { b.Owner[47] = 2 },
		"in Heads":                  func(b *impl.Book) { b.Heads[3] = []int{8} },
		"an empty page in Heads":    func(b *impl.Book) { b.Heads[3] = []int{0} },
		"the empty page's units":    func(b *impl.Book) { b.Heads[0] = []int{0, 1, 2, 3, 4, 5, 6, 7} },
	}
}

// notOkBooks are books each of which breaks one condition, by name.
func notOkBooks() map[string]impl.Book {
	books := map[string]impl.Book{"nothing": {}}
	for name, how := range brokenSlots() {
		books[name] = turn(bookOfKinds(), how)
	}
	for name, how := range brokenRooms() {
		books[name] = turn(bookOfKinds(), how)
	}
	for name, how := range brokenRows() {
		books["rows: "+name] = turn(bookOfRows(), how)
	}
	for n, what := range map[int][]int{2: {10}, 3: {11, 7}, 4: {12, 7, 7}} {
		// The room goes past the end of the house by one page.
		b := modelOpen(1, len(what))
		b.Pages, b.Owner[0], b.In, b.Epoch = what, 1, []int{1}, []int{1}
		books["past the end, of "+strconv.Itoa(n)] = b
	}
	for _, pages := range []int{7, 8, 100} {
		books[strconv.Itoa(pages)+" pages, all lists so"] = modelOpen(1, pages)
	}
	books["slots 5, all lists so"] = modelOpen(5, 1)
	books["no slots, all lists so"] = modelOpen(0, 1)
	books["no pages, all lists so"] = modelOpen(1, 0)
	return books
}

// Each condition that the chapter names, broken alone.
func TestBooksThatAreNotOk(t *testing.T) {
	for name, b := range notOkBooks() {
		if modelOk(b) {
			t.Fatalf("%s: breaks nothing", name)
		}
		lent, asItWas := lend(b)
		if impl.BookOk(lent) {
			t.Errorf("%s: ok", name)
		}
		if !asItWas() {
			t.Errorf("%s: the book was turned", name)
		}
	}
}

// What is not ok is answered by the one fixed answer of each call.
func TestCallsOfBooksThatAreNotOk(t *testing.T) {
	for name, b := range notOkBooks() {
		for kind := -1; kind <= 8; kind++ {
			for slot := -1; slot <= 4; slot++ {
				op := impl.BookOp{Kind: kind, Slot: slot, A: 8}
				if x, code, val := impl.BookDo(b, op); !isNothing(x) || code != codeNone || val != 0 {
					t.Errorf("%s: %v: %v, %d, %d", name, op, x, code, val)
				}
			}
		}
		for n := -1; n <= 48; n++ {
			if x := impl.BookCut(b, n); !isNothing(x) {
				t.Errorf("%s: slot %d was cut off: %v", name, n, x)
			}
			if size := impl.BookRoom(b, n); size != 0 {
				t.Errorf("%s: the room at %d has %d units", name, n, size)
			}
			if rooms := impl.BookOf(b, n); len(rooms) != 0 {
				t.Errorf("%s: slot %d has %v", name, n, rooms)
			}
		}
	}
}

// seeOk holds BookOk against the model.
func seeOk(t *testing.T, b impl.Book) bool {
	t.Helper()
	want := modelOk(b)
	if impl.BookOk(b) != want {
		t.Fatalf("ok is %v: %v", !want, b)
	}
	return want
}

// Every number of every list of a book turned into every number that may mean
// something there, and each list one longer and one shorter.
func TestBooksTurnedAtOnePlace(t *testing.T) {
	var numbers []int
	for n := -2; n <= 50; n++ {
		numbers = append(numbers, n)
	}
	numbers = append(numbers, 4094, 4095, 4096, math.MinInt, math.MaxInt, math.MinInt+8, math.MaxInt-8)
	books := append(someBooks(300, 40), bookOfKinds(), bookOfRows(), bookOfThree())
	good, bad := 0, 0
	for _, b := range books {
		count := func(x impl.Book) {
			if seeOk(t, x) {
				good++
			} else {
				bad++
			}
		}
		for which := range namesOfLists {
			many := len(*listsOf(&b)[which])
			for at := range many {
				for _, n := range numbers {
					count(turn(b, func(x *impl.Book) { (*listsOf(x)[which])[at] = n }))
				}
				count(turn(b, func(x *impl.Book) { list := listsOf(x)[which]; *list = slices.Delete(*list, at, at+1) }))
			}
			for at := 0; at <= many; at++ {
				for _, n := range []int{-1, 0, 1, 7, 8, 12, 47, 48} {
					count(turn(b, func(x *impl.Book) { list := listsOf(x)[which]; *list = slices.Insert(*list, at, n) }))
				}
			}
		}
		for _, n := range numbers {
			count(turn(b, func(x *impl.Book) { x.Slots = n }))
		}
	}
	if good < 1000 || bad < 1000 {
		t.Error("too few of one sort:", good, bad)
	}
}

// Pages in every arrangement of a small house, with and without an owner at the
// first unit of each.
func TestEveryRowOfPages(t *testing.T) {
	t.Parallel()
	says := []int{0, 4, 7, 9, 10, 11, 12, 13}
	good := 0
	for pages := 1; pages <= 5; pages++ {
		var choices [][]int
		for range pages {
			choices = append(choices, says)
		}
		eachRow(choices, func(row []int) {
			for owners := range 1 << pages {
				b := modelOpen(1, pages)
				b.Pages, b.In, b.Epoch = row, []int{1}, []int{1}
				for page := range pages {
					b.Owner[8*page] = owners >> page & 1
				}
				if seeOk(t, b) {
					good++
				}
			}
		})
	}
	if good < 10 {
		t.Error("too few are ok:", good)
	}
}

// Lists that are missing or far too long, several at once in every arrangement:
// no place is looked for in a list ahead of how long it is.
func TestListsOfWrongLengths(t *testing.T) {
	long := slices.Repeat([]int{1}, 1<<16)
	base := bookOfKinds()
	var choices [][]int
	for range namesOfLists {
		choices = append(choices, []int{0, 1, 2})
	}
	good := 0
	eachRow(choices, func(row []int) {
		for _, slots := range []int{4, 0, len(long)} {
			b := base
			b.Slots = slots
			for i, list := range listsOf(&b) {
				*list = [][]int{*list, nil, long}[row[i]]
			}
			if seeOk(t, b) {
				good++
			}
		}
	})
	// As it is, and without the list of the kind of which no room is free.
	if good != 2 {
		t.Error("so many are ok:", good)
	}
}
