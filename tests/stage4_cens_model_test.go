package tests

import (
	"slices"
	"testing"

	"loop.example/hostel/impl"
)

// What doors say, and where the words of all houses lie, in plain figures.
const (
	doorFree = 0
	doorHeld = 1
	doorDone = 2

	clockAt = 1
	doorAt  = 2

	mostChanges = 20
)

// From here on: the chapter once more, as plainly as can be.

func regAt(c impl.PlatCfg, slot int) int  { return 3 + slot }
func beatAt(c impl.PlatCfg, slot int) int { return 3 + c.Slots + slot }
func headAt(c impl.PlatCfg, kind int) int { return 3 + 2*c.Slots + kind }
func pageAt(c impl.PlatCfg, page int) int { return 7 + 2*c.Slots + page }
func tagAt(c impl.PlatCfg, unit int) int  { return 7 + 2*c.Slots + c.Pages + unit }
func linkAt(c impl.PlatCfg, unit int) int { return 7 + 2*c.Slots + 9*c.Pages + unit }
func deskAt(c impl.PlatCfg, slot int) int { return 7 + 2*c.Slots + 17*c.Pages + 21*slot }

func valOf(w uint64) int                    { return int(w % (mostHalf + 1)) }
func stampOf(w uint64) int                  { return int(w / (mostHalf + 1)) }
func wordOf(val int, stamp int) uint64      { return uint64(stamp)*(mostHalf+1) + uint64(val) }
func changeOf(at int, val, st int) uint64   { return wordOf(at*(mostVal+1)+val, st) }
func doorOf(state, slot, ep, st int) uint64 { return wordOf(state+4*slot+32*ep, st) }

// houseOf is a house that a book is one of.
func houseOf(b impl.Book, lease int) impl.PlatCfg {
	return impl.PlatCfg{Slots: b.Slots, Pages: len(b.Pages), Lease: lease}
}

// modelHouse is the house that words name by their first one.
func modelHouse(w []uint64) (impl.PlatCfg, bool) {
	if len(w) == 0 || stampOf(w[0]) != magic {
		return impl.PlatCfg{}, false
	}
	n := valOf(w[0])
	c := impl.PlatCfg{Slots: n % 8, Pages: n / 8 % 8, Lease: n / 64}
	ok := between(c.Slots, 1, mostSlots) && between(c.Pages, 1, mostPages) && between(c.Lease, 1, mostLease)
	return c, ok
}

// modelLay is the values of a book that is ok, of its own house.
func modelLay(b impl.Book) []int {
	out := []int{0, 0, 0}
	for slot, in := range b.In {
		out = append(out, in+4*b.Epoch[slot])
	}
	out = append(out, make([]int, b.Slots)...)
	links := make([]int, len(b.Owner))
	for _, rooms := range b.Heads {
		first := 0
		for i := len(rooms) - 1; i >= 0; i-- {
			links[rooms[i]] = first
			first = rooms[i] + 1
		}
		out = append(out, first)
	}
	out = append(out, b.Pages...)
	out = append(out, b.Owner...)
	return append(out, links...)
}

// modelBook reads words of which it is known that they are those of a house.
func modelBook(w []uint64, c impl.PlatCfg) (impl.Book, bool) {
	b := modelOpen(c.Slots, c.Pages)
	units := 8 * c.Pages
	for slot := range c.Slots {
		b.In[slot] = valOf(w[regAt(c, slot)]) % 4
		b.Epoch[slot] = valOf(w[regAt(c, slot)]) / 4
	}
	for page := range c.Pages {
		b.Pages[page] = valOf(w[pageAt(c, page)])
	}
	linked := make([]bool, units)
	for unit := range units {
		b.Owner[unit] = valOf(w[tagAt(c, unit)])
	}
	for kind := range allKinds {
		for next := valOf(w[headAt(c, kind)]); next != 0; next = valOf(w[linkAt(c, next-1)]) {
			if next > units || linked[next-1] {
				return impl.Book{}, false
			}
			linked[next-1] = true
			b.Heads[kind] = append(b.Heads[kind], next-1)
		}
	}
	for unit := range units {
		if !linked[unit] && valOf(w[linkAt(c, unit)]) != 0 {
			return impl.Book{}, false
		}
	}
	if !modelOk(b) {
		return impl.Book{}, false
	}
	return b, true
}

// modelChanges are the changes that are done in words of a house, and whether
// anything is.
func modelChanges(w []uint64, c impl.PlatCfg) ([]uint64, bool) {
	door := w[doorAt]
	slot := valOf(door) / 4 % 8
	if valOf(door)%4 != doorDone || slot >= c.Slots {
		return nil, false
	}
	first := w[deskAt(c, slot)]
	if stampOf(first) != stampOf(door) || valOf(first) > mostChanges {
		return nil, false
	}
	var out []uint64
	for i := 1; i <= valOf(first); i++ {
		if word := w[deskAt(c, slot)+i]; stampOf(word) == stampOf(door) {
			out = append(out, word)
		}
	}
	return out, true
}

// modelCarry is words with a change carried out.
func modelCarry(w []uint64, change uint64) []uint64 {
	out := slices.Clone(w)
	at := valOf(change) / (mostVal + 1)
	if at < len(w) && stampOf(w[at]) < stampOf(change) {
		out[at] = wordOf(valOf(change)%(mostVal+1), stampOf(change))
	}
	return out
}

// modelDone is what is done, carried out, in words of which it is known that
// they are those of a house with desks.
func modelDone(w []uint64, c impl.PlatCfg) []uint64 {
	out := slices.Clone(w)
	changes, done := modelChanges(w, c)
	if !done {
		return out
	}
	for _, change := range changes {
		out = modelCarry(out, change)
	}
	out[doorAt] = doorOf(doorFree, 0, 0, min(stampOf(w[doorAt])+1, mostHalf))
	return out
}

// The calls of the chapter, with their memory looked at.

// lendWords is words with spare room behind them, and a question whether all of
// it is still as it was.
func lendWords(w []uint64) ([]uint64, func() bool) {
	room := append(slices.Clone(w), 101, 202, 303)
	before := slices.Clone(room)
	return room[:len(w)], func() bool { return slices.Equal(room, before) }
}

// spoilList writes over a list, spare room included.
func spoilList[T int | uint64](list []T) {
	all := list[:cap(list)]
	for i := range all {
		all[i] = 987654
	}
}

func censLay(t *testing.T, c impl.PlatCfg, b impl.Book) []int {
	t.Helper()
	lent, asItWas := lend(b)
	got := impl.CensLay(c, lent)
	answer := slices.Clone(got)
	spoilList(got)
	if !asItWas() {
		t.Fatalf("%v: the book that was handed in is not as it was: %v", c, b)
	}
	return answer
}

// readBook is the answer of a call that reads a book in words.
func readBook(t *testing.T, w []uint64, call func(w []uint64) (impl.Book, bool)) (impl.Book, bool) {
	t.Helper()
	lent, asItWas := lendWords(w)
	got, ok := call(lent)
	answer := copyOf(got)
	if !spoil(got) {
		t.Fatalf("lists of the answer share memory: %v", answer)
	}
	if !asItWas() {
		t.Fatalf("the words that were handed in are not as they were: %v", w)
	}
	if !ok && !isNothing(answer) {
		t.Fatalf("false, and not nothing: %v", answer)
	}
	return answer, ok
}

func censBook(t *testing.T, w []uint64) (impl.Book, bool) {
	t.Helper()
	return readBook(t, w, impl.CensBook)
}

func censTrue(t *testing.T, w []uint64) (impl.Book, bool) {
	t.Helper()
	return readBook(t, w, impl.CensTrue)
}

func censDone(t *testing.T, w []uint64) []uint64 {
	t.Helper()
	lent, asItWas := lendWords(w)
	got := impl.CensDone(lent)
	answer := slices.Clone(got)
	spoilList(got)
	if !asItWas() {
		t.Fatalf("the words that were handed in are not as they were: %v", w)
	}
	return answer
}

// Words that stand for books.

// standing is the words of a house, with desks, that stand for a book: each with
// a stamp, the clock, the door and the beats with values that are no matter.
func standing(c impl.PlatCfg, b impl.Book, stamp func(at int) int) []uint64 {
	w := make([]uint64, sizeOf(c))
	for at, val := range modelLay(b) {
		w[at] = wordOf(val, stamp(at))
	}
	w[0] = firstOf(c)
	w[clockAt] = wordOf(77, 0)
	w[doorAt] = doorOf(doorFree, 0, 0, 5)
	for slot := range c.Slots {
		w[beatAt(c, slot)] = wordOf(70+slot, slot)
	}
	return w
}

func stampThree(int) int { return 3 }

// withoutDesks is the words ahead of the desks.
func withoutDesks(c impl.PlatCfg, w []uint64) []uint64 { return w[:deskAt(c, 0)] }

// seeBook holds what CensBook reads against the model.
func seeBook(t *testing.T, why string, w []uint64, c impl.PlatCfg) bool {
	t.Helper()
	want, wantOk := modelBook(w, c)
	got, ok := censBook(t, w)
	if ok != wantOk || !alike(got, want) {
		t.Fatalf("%s: %v: %v, %v, not %v, %v", why, c, ok, got, wantOk, want)
	}
	return ok
}
