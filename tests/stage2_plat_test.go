package tests

import (
	"math"
	"slices"
	"testing"

	"loop.example/hostel/impl"
)

// How large houses may be, in plain figures, as for the fields of words.
const (
	mostSlots   = 4
	mostPages   = 6
	mostLease   = 20
	unitsOfPage = 8
	allKinds    = 4
	wordsOfDesk = 21
	magic       = 201115
)

func everyHouse() []impl.PlatCfg {
	var out []impl.PlatCfg
	for slots := 1; slots <= mostSlots; slots++ {
		for pages := 1; pages <= mostPages; pages++ {
			for lease := 1; lease <= mostLease; lease++ {
				out = append(out, impl.PlatCfg{Slots: slots, Pages: pages, Lease: lease})
			}
		}
	}
	return out
}

// wrongHouses: each part at 0, below 0, above its greatest and at the ends of
// int, alone and all at once.
func wrongHouses() []impl.PlatCfg {
	var out []impl.PlatCfg
	wrong := func(most int) []int { return []int{math.MinInt, -most, -1, 0, most + 1, 1 << 32, 1 << 61, math.MaxInt} }
	for _, c := range []impl.PlatCfg{{Slots: 1, Pages: 1, Lease: 1}, {Slots: 2, Pages: 3, Lease: 5}, {Slots: mostSlots, Pages: mostPages, Lease: mostLease}} {
		for _, n := range wrong(mostSlots) {
			out = append(out, impl.PlatCfg{Slots: n, Pages: c.Pages, Lease: c.Lease})
		}
		for _, n := range wrong(mostPages) {
			out = append(out, impl.PlatCfg{Slots: c.Slots, Pages: n, Lease: c.Lease})
		}
		for _, n := range wrong(mostLease) {
			out = append(out, impl.PlatCfg{Slots: c.Slots, Pages: c.Pages, Lease: n})
		}
	}
	for _, n := range wrong(mostLease) {
		out = append(out, impl.PlatCfg{Slots: n, Pages: n, Lease: n})
	}
	return out
}

// kindOfPlace is a call that tells addresses.
type kindOfPlace struct {
	name string
	at   func(c impl.PlatCfg, n int) int
	many func(c impl.PlatCfg) int // how many numbers it has an address for
	wide int                      // how many words lie at each
}

// kindsOfPlaces stand in the order of the document.
func kindsOfPlaces() []kindOfPlace {
	slots := func(c impl.PlatCfg) int { return c.Slots }
	kinds := func(c impl.PlatCfg) int { return allKinds }
	pages := func(c impl.PlatCfg) int { return c.Pages }
	units := func(c impl.PlatCfg) int { return c.Pages * unitsOfPage }
	return []kindOfPlace{
		{"PlatReg", impl.PlatReg, slots, 1},
		{"PlatBeat", impl.PlatBeat, slots, 1},
		{"PlatHead", impl.PlatHead, kinds, 1},
		{"PlatPage", impl.PlatPage, pages, 1},
		{"PlatTag", impl.PlatTag, units, 1},
		{"PlatLink", impl.PlatLink, units, 1},
		{"PlatDesk", impl.PlatDesk, slots, wordsOfDesk},
	}
}

// sizeOf is how many words a house has by the document's list.
func sizeOf(c impl.PlatCfg) int {
	return 3 + c.Slots + c.Slots + 4 + c.Pages + 8*c.Pages + 8*c.Pages + 21*c.Slots
}

// firstOf is the first word of a house by the document's sum.
func firstOf(c impl.PlatCfg) uint64 {
	return magic*(mostHalf+1) + uint64(c.Slots+8*c.Pages+64*c.Lease)
}

// wordsWithSpare is some words with spare room behind them, and all of the room.
func wordsWithSpare(n int) ([]uint64, []uint64) {
	room := make([]uint64, n+4)
	for i := range room {
		room[i] = 1000*(mostHalf+1) + uint64(i)
	}
	return room[:n], room
}

func TestLimitsOfHouses(t *testing.T) {
	got := []int{impl.PlatMaxSlots, impl.PlatMaxPages, impl.PlatMaxLease, impl.PlatUnits, impl.PlatKinds,
		impl.PlatEntries, impl.PlatClock, impl.PlatDoor, impl.PlatMagic}
	if !slices.Equal(got, []int{4, 6, 20, 8, 4, 20, 1, 2, 201115}) {
		t.Error(got)
	}
}

func TestHousesThatAreOk(t *testing.T) {
	n := 0
	for slots := -2; slots <= 9; slots++ {
		for pages := -2; pages <= 9; pages++ {
			for lease := -2; lease <= 130; lease++ {
				c := impl.PlatCfg{Slots: slots, Pages: pages, Lease: lease}
				want := slots >= 1 && slots <= 4 && pages >= 1 && pages <= 6 && lease >= 1 && lease <= 20
				if impl.PlatOk(c) != want {
					t.Errorf("%v: ok is %v", c, !want)
				}
				if want {
					n++
				}
			}
		}
	}
	if n != 480 || len(everyHouse()) != n {
		t.Error(n, len(everyHouse()))
	}
	for _, c := range wrongHouses() {
		if impl.PlatOk(c) {
			t.Errorf("%v is ok", c)
		}
	}
}

// P3: the words of all areas, and of a desk all of its words, are the addresses
// from 0 to the size less 1, each once.
func TestNoTwoAtOneAddress(t *testing.T) {
	for _, c := range everyHouse() {
		size := impl.PlatSize(c)
		owners := make([]int, size)
		claim := func(name string, n int, at int) {
			if at < 0 || at >= size {
				t.Fatalf("%v: %s of %d has a word at %d, of %d", c, name, n, at, size)
			}
			owners[at]++
		}
		claim("the first word", 0, 0)
		claim("PlatClock", 0, impl.PlatClock)
		claim("PlatDoor", 0, impl.PlatDoor)
		for _, k := range kindsOfPlaces() {
			for n := range k.many(c) {
				for i := range k.wide {
					claim(k.name, n, k.at(c, n)+i)
				}
			}
		}
		for at, n := range owners {
			if n != 1 {
				t.Errorf("%v: %d words lie at %d", c, n, at)
			}
		}
	}
}

// The areas lie one behind the other in the document's order, and each begins
// with what is numbered 0.
func TestOrderOfAreas(t *testing.T) {
	for _, c := range everyHouse() {
		next := 3
		for _, k := range kindsOfPlaces() {
			for n := range k.many(c) {
				if got := k.at(c, n); got != next {
					t.Errorf("%v: %s of %d is %d, not %d", c, k.name, n, got, next)
				}
				next += k.wide
			}
		}
		if got := impl.PlatSize(c); got != next || got != sizeOf(c) {
			t.Errorf("%v: the size is %d, not %d", c, got, next)
		}
	}
}

func TestSizesInFigures(t *testing.T) {
	least := impl.PlatCfg{Slots: 1, Pages: 1, Lease: 1}
	most := impl.PlatCfg{Slots: 4, Pages: 6, Lease: 20}
	if got := impl.PlatSize(least); got != 47 {
		t.Error(got)
	}
	if got := impl.PlatSize(most); got != 201 {
		t.Error(got)
	}
	if got := impl.PlatDesk(least, 0); got != 26 {
		t.Error(got)
	}
	got := []int{impl.PlatReg(most, 3), impl.PlatBeat(most, 0), impl.PlatHead(most, 3), impl.PlatPage(most, 5),
		impl.PlatTag(most, 0), impl.PlatTag(most, 47), impl.PlatLink(most, 0), impl.PlatLink(most, 47), impl.PlatDesk(most, 3)}
	if !slices.Equal(got, []int{6, 7, 14, 20, 21, 68, 69, 116, 180}) {
		t.Error(got)
	}
}

// What is none has the address 0.
func TestNumbersThatAreNone(t *testing.T) {
	for _, c := range everyHouse() {
		for _, k := range kindsOfPlaces() {
			many := k.many(c)
			for _, n := range []int{math.MinInt, -many, -1, many, many + 1, 2 * many, 1 << 32, 1 << 61, math.MaxInt} {
				if got := k.at(c, n); got != 0 {
					t.Errorf("%v: %s of %d is %d", c, k.name, n, got)
				}
			}
		}
	}
}

func TestHousesThatAreNotOk(t *testing.T) {
	for _, c := range wrongHouses() {
		if got := impl.PlatSize(c); got != 0 {
			t.Errorf("%v: the size is %d", c, got)
		}
		if got := impl.PlatFormat(c); len(got) != 0 {
			t.Errorf("%v: has %d words", c, len(got))
		}
		for _, k := range kindsOfPlaces() {
			for _, n := range []int{math.MinInt, -1, 0, 1, 3, 4, 47, 48, math.MaxInt} {
				if got := k.at(c, n); got != 0 {
					t.Errorf("%v: %s of %d is %d", c, k.name, n, got)
				}
			}
		}
	}
}

func TestWordsOfAHouse(t *testing.T) {
	for _, c := range everyHouse() {
		w := impl.PlatFormat(c)
		if len(w) != sizeOf(c) {
			t.Fatalf("%v: has %d words", c, len(w))
		}
		for at, word := range w {
			want := uint64(0)
			switch at {
			case 0:
				want = firstOf(c)
			case 2:
				want = 1 << 32
			}
			if word != want {
				t.Errorf("%v: the word at %d is %#x, not %#x", c, at, word, want)
			}
		}
		if got, ok := impl.PlatCheck(w); !ok || got != c {
			t.Errorf("%v is read as %v, %v", c, got, ok)
		}
	}
}

func TestWordsAreNewEachTime(t *testing.T) {
	c := impl.PlatCfg{Slots: 2, Pages: 2, Lease: 3}
	a, b := impl.PlatFormat(c), impl.PlatFormat(c)
	for i := range a {
		a[i] = math.MaxUint64
	}
	if !slices.Equal(b, impl.PlatFormat(c)) {
		t.Error("two houses share words")
	}
}

// refused says that some words are those of no house.
func refused(t *testing.T, why string, w []uint64) {
	t.Helper()
	if c, ok := impl.PlatCheck(w); ok || c != (impl.PlatCfg{}) {
		t.Errorf("%s: %v, %v", why, c, ok)
	}
}

func TestWordsOfNoHouse(t *testing.T) {
	refused(t, "nil", nil)
	refused(t, "no words", []uint64{})
	refused(t, "no words, with room", make([]uint64, 0, 47))
	refused(t, "one word, 0", make([]uint64, 1))
	for _, c := range everyHouse() {
		w := impl.PlatFormat(c)
		refused(t, "one too many", append(slices.Clone(w), 0))
		refused(t, "one too few", w[:len(w)-1])
		refused(t, "the first one alone", w[:1])
		refused(t, "none of them", w[:0])
		refused(t, "without the first", w[1:])
		refused(t, "without the desks", w[:impl.PlatDesk(c, 0)])
		for _, stamp := range []int{0, 1, magic - 1, magic + 1, magic * 2, 1<<31 + magic, mostHalf} {
			w[0] = uint64(stamp)<<32 | firstOf(c)%(1<<32)
			refused(t, "another stamp", w)
		}
		w[0] = 0
		refused(t, "no first word", w)
	}
}

// Every value of the first word that is near a house's, and those with one more
// bit far above, with as many words as any house has: a house is known by its
// value and its size together.
func TestEveryFirstValue(t *testing.T) {
	var sizes []int
	for slots := 1; slots <= mostSlots; slots++ {
		for pages := 1; pages <= mostPages; pages++ {
			sizes = append(sizes, sizeOf(impl.PlatCfg{Slots: slots, Pages: pages, Lease: 1}))
		}
	}
	words := make([]uint64, 400)
	see := func(val uint64) {
		words[0] = magic<<32 | val
		c := impl.PlatCfg{Slots: int(val % 8), Pages: int(val / 8 % 8), Lease: int(val / 64)}
		known := c.Slots >= 1 && c.Slots <= 4 && c.Pages >= 1 && c.Pages <= 6 && c.Lease >= 1 && c.Lease <= 20
		for _, n := range sizes {
			got, ok := impl.PlatCheck(words[:n])
			if want := known && n == sizeOf(c); ok != want || ok && got != c || !ok && got != (impl.PlatCfg{}) {
				t.Fatalf("value %d, %d words: %v, %v", val, n, got, ok)
			}
		}
	}
	for val := uint64(0); val < 64*64; val++ {
		see(val)
	}
	for bit := 12; bit < 32; bit++ {
		for _, c := range everyHouse() {
			see(firstOf(c)%(1<<32) | 1<<bit)
		}
	}
}

// A house that is not ok is not read again, although its parts would fit in the
// first word, whatever number of words there is.
func TestFirstWordsOfHousesThatAreNotOk(t *testing.T) {
	for _, c := range []impl.PlatCfg{{Slots: 0, Pages: 1, Lease: 1}, {Slots: 1, Pages: 0, Lease: 1}, {Slots: 1, Pages: 1, Lease: 0},
		{Slots: 5, Pages: 1, Lease: 1}, {Slots: 1, Pages: 7, Lease: 1}, {Slots: 1, Pages: 1, Lease: 21}, {}} {
		words := make([]uint64, 400)
		words[0] = firstOf(c)
		for n := range words {
			refused(t, "not ok", words[:n])
		}
	}
}

// Only the first word and the number of words tell the house.
func TestHouseInUse(t *testing.T) {
	for _, c := range everyHouse() {
		words, room := wordsWithSpare(sizeOf(c))
		words[0] = firstOf(c)
		before := slices.Clone(room)
		if got, ok := impl.PlatCheck(words); !ok || got != c {
			t.Errorf("%v is read as %v, %v", c, got, ok)
		}
		if !slices.Equal(room, before) {
			t.Errorf("%v: words were turned", c)
		}
	}
}

// placesThatAreNone of so many words: the room behind them is none.
func placesThatAreNone(n int) []int {
	return []int{math.MinInt, -n - 1, -n, -1, n, n + 1, n + 3, n + 4, 1 << 32, 1 << 61, math.MaxInt}
}

func TestLoad(t *testing.T) {
	for _, n := range []int{0, 1, 2, 47, 201, 5000} {
		words, room := wordsWithSpare(n)
		before := slices.Clone(room)
		for at := range n {
			if got := impl.PlatLoad(words, at); got != before[at] {
				t.Errorf("of %d words, at %d: %#x", n, at, got)
			}
		}
		for _, at := range placesThatAreNone(n) {
			if got := impl.PlatLoad(words, at); got != 0 {
				t.Errorf("of %d words, at %d, which is none: %#x", n, at, got)
			}
		}
		if !slices.Equal(room, before) {
			t.Errorf("of %d words: some were turned", n)
		}
	}
	for _, at := range placesThatAreNone(0) {
		if got := impl.PlatLoad(nil, at); got != 0 {
			t.Errorf("of no words, at %d: %#x", at, got)
		}
	}
}

// swapped makes a swap and sees to it that what was handed in, and the room
// behind it, stays as it was, also when the answer is written over.
func swapped(t *testing.T, n int, at int, old uint64, now uint64) ([]uint64, bool) {
	t.Helper()
	words, room := wordsWithSpare(n)
	before := slices.Clone(room)
	got, ok := impl.PlatSwap(words, at, old, now)
	answer := slices.Clone(got)
	all := got[:cap(got)]
	for i := range all {
		all[i] = math.MaxUint64
	}
	if !slices.Equal(room, before) {
		t.Errorf("of %d words, at %d: what was handed in was turned", n, at)
	}
	return answer, ok
}

// P4: where the old word is there the new one comes in its place, and no other
// word turns.
func TestSwapTurnsOneWord(t *testing.T) {
	for _, n := range []int{1, 2, 47, 201} {
		before, _ := wordsWithSpare(n)
		for at := range n {
			for _, now := range []uint64{0, 1, before[at], before[at] + 1, math.MaxUint64} {
				got, ok := swapped(t, n, at, before[at], now)
				want := slices.Clone(before)
				want[at] = now
				if !ok || !slices.Equal(got, want) {
					t.Errorf("of %d words, at %d, %#x: %v", n, at, now, ok)
				}
			}
		}
	}
}

// P4: where the old word is not there, not in its value, not in its stamp, or
// at another address alone, nothing turns.
func TestSwapOfAnotherWord(t *testing.T) {
	for _, n := range []int{1, 2, 47, 201} {
		before, _ := wordsWithSpare(n)
		for at := range n {
			there := before[at]
			for _, old := range []uint64{0, there - 1, there + 1, there % (1 << 32), there >> 32, there ^ 1<<32, there ^ 1<<63, there << 32, math.MaxUint64} {
				if got, ok := swapped(t, n, at, old, 7); ok || !slices.Equal(got, before) {
					t.Errorf("of %d words, at %d, of %#x: %v", n, at, old, ok)
				}
			}
		}
	}
}

// P4: an address that is none has no word, not even 0, nor the one that lies in
// the room behind the words.
func TestSwapAtNoAddress(t *testing.T) {
	for _, n := range []int{0, 1, 2, 47, 201} {
		before, room := wordsWithSpare(n)
		olds := append([]uint64{0, math.MaxUint64}, room...)
		for _, at := range placesThatAreNone(n) {
			for _, old := range olds {
				if got, ok := swapped(t, n, at, old, 7); ok || !slices.Equal(got, before) {
					t.Errorf("of %d words, at %d, of %#x: %v", n, at, old, ok)
				}
			}
		}
	}
}

func TestSwapOfNoWords(t *testing.T) {
	for _, at := range placesThatAreNone(0) {
		for _, old := range []uint64{0, 1, math.MaxUint64} {
			if got, ok := impl.PlatSwap(nil, at, old, 7); ok || len(got) != 0 {
				t.Errorf("at %d, of %#x: %d words, %v", at, old, len(got), ok)
			}
		}
	}
}

// P4, on a house: the clock ticks, once for each word that is seen.
func TestSwapsOneBehindTheOther(t *testing.T) {
	w := impl.PlatFormat(impl.PlatCfg{Slots: 2, Pages: 2, Lease: 3})
	first := slices.Clone(w)
	for tick := range uint64(5) {
		next, ok := impl.PlatSwap(w, impl.PlatClock, tick, tick+1)
		if !ok {
			t.Fatalf("tick %d did not come", tick)
		}
		if again, ok := impl.PlatSwap(next, impl.PlatClock, tick, tick+9); ok || !slices.Equal(again, next) {
			t.Errorf("tick %d came twice", tick)
		}
		w = next
	}
	first[impl.PlatClock] = 5
	if !slices.Equal(w, first) {
		t.Error("more than the clock has turned")
	}
}
