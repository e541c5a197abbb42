package tests

import (
	"slices"
	"testing"

	"loop.example/hostel/impl"
)

// deskHouse is a house of several slots, so that a desk may be another's.
var deskHouse = impl.PlatCfg{Slots: 3, Pages: 2, Lease: 4}

// deskBook: slot 0 has room 0 of kind 1, slot 1 is in with none.
func deskBook() impl.Book {
	b := modelOpen(3, 2)
	b.Pages[0] = 2
	b.Heads[1] = []int{2, 4, 6}
	b.Owner[0] = 1
	b.In, b.Epoch = []int{1, 1, 0}, []int{2, 1, 0}
	return b
}

// takingByDesk is words in which slot 1 has done to take a room of two units, by
// changes with a stamp on its desk; the change of the door stands behind them.
func takingByDesk(stamp int) []uint64 {
	c := deskHouse
	w := standing(c, deskBook(), stampThree)
	writeDesk(w, c, 1, stamp,
		changeOf(headAt(c, 1), 5, stamp),
		changeOf(tagAt(c, 2), 2, stamp),
		changeOf(linkAt(c, 2), 0, stamp))
	w[doorAt] = doorOf(doorDone, 1, 1, stamp)
	return w
}

// taken is the book behind takingByDesk.
func taken() impl.Book {
	return turn(deskBook(), func(b *impl.Book) {
		b.Heads[1] = []int{4, 6}
		b.Owner[2] = 2
	})
}

// writeDesk writes words onto a desk, with a first word that says how many.
func writeDesk(w []uint64, c impl.PlatCfg, slot int, stamp int, words ...uint64) {
	at := deskAt(c, slot)
	w[at] = wordOf(len(words), stamp)
	copy(w[at+1:], words)
}

// seeDone holds CensDone and CensTrue against the model, and P12.
func seeDone(t *testing.T, why string, w []uint64, c impl.PlatCfg) []uint64 {
	t.Helper()
	want := modelDone(w, c)
	got := censDone(t, w)
	if !slices.Equal(got, want) {
		t.Fatalf("%s: %v, not %v", why, got, want)
	}
	if once := censDone(t, got); !slices.Equal(once, got) {
		t.Fatalf("%s: once more: %v, not %v", why, once, got)
	}
	var book impl.Book
	ok := false
	if c, known := modelHouse(want); known {
		book, ok = modelBook(want, c)
	}
	if x, y := censTrue(t, w); y != ok || !alike(x, book) {
		t.Fatalf("%s: the true book: %v, %v, not %v, %v", why, y, x, ok, book)
	}
	return got
}

// What is done, word by word.
func TestWhatIsDone(t *testing.T) {
	c := deskHouse
	w := takingByDesk(8)
	want := slices.Clone(w)
	want[headAt(c, 1)] = wordOf(5, 8)
	want[tagAt(c, 2)] = wordOf(2, 8)
	want[linkAt(c, 2)] = wordOf(0, 8)
	want[doorAt] = doorOf(doorFree, 0, 0, 9)
	if got := seeDone(t, "taking", w, c); !slices.Equal(got, want) {
		t.Errorf("%v, not %v", got, want)
	}
	if got, ok := censBook(t, w); !ok || !alike(got, deskBook()) {
		t.Errorf("not carried out: %v, %v", ok, got)
	}
	if got, ok := censTrue(t, w); !ok || !alike(got, taken()) {
		t.Errorf("carried out: %v, %v", ok, got)
	}
}

// Nothing is done, and the words are as they are.
func nothingDone() map[string]func(w []uint64) {
	desk := deskAt(deskHouse, 1)
	return map[string]func(w []uint64){
		"a door that is free":            func(w []uint64) { w[doorAt] = doorOf(doorFree, 1, 1, 8) },
		"a door that is held":            func(w []uint64) { w[doorAt] = doorOf(doorHeld, 1, 1, 8) },
		"a door with state 3":            func(w []uint64) { w[doorAt] = doorOf(3, 1, 1, 8) },
		"a door for a slot too far":      func(w []uint64) { w[doorAt] = doorOf(doorDone, 3, 1, 8) },
		"a door for the last slot":       func(w []uint64) { w[doorAt] = doorOf(doorDone, 7, 1, 8) },
		"a door for another desk":        func(w []uint64) { w[doorAt] = doorOf(doorDone, 0, 1, 8) },
		"a door with a lower stamp":      func(w []uint64) { w[doorAt] = doorOf(doorDone, 1, 1, 7) },
		"a door with a greater stamp":    func(w []uint64) { w[doorAt] = doorOf(doorDone, 1, 1, 9) },
		"a desk with a lower stamp":      func(w []uint64) { w[desk] = wordOf(3, 7) },
		"a desk with a greater stamp":    func(w []uint64) { w[desk] = wordOf(3, 9) },
		"a desk with no stamp":           func(w []uint64) { w[desk] = wordOf(3, 0) },
		"a desk of one change too many":  func(w []uint64) { w[desk] = wordOf(21, 8) },
		"a desk of the greatest value":   func(w []uint64) { w[desk] = wordOf(mostHalf, 8) },
		"a desk of 3 and a great number": func(w []uint64) { w[desk] = wordOf(3+1<<20, 8) },
	}
}

func TestNothingIsDone(t *testing.T) {
	for name, how := range nothingDone() {
		w := takingByDesk(8)
		how(w)
		if got := seeDone(t, name, w, deskHouse); !slices.Equal(got, w) {
			t.Errorf("%s: %v", name, got)
		}
		if got, ok := censTrue(t, w); !ok || !alike(got, deskBook()) {
			t.Errorf("%s: %v, %v", name, ok, got)
		}
	}
}

// Whatever epoch the door has, even one that no call makes, is no matter.
func TestTheDoorsEpochIsNoMatter(t *testing.T) {
	for _, epoch := range []int{0, 1, 4095, 4096, mostHalf / 32} {
		w := takingByDesk(8)
		w[doorAt] = doorOf(doorDone, 1, epoch, 8)
		if got := seeDone(t, "epoch", w, deskHouse); got[doorAt] != doorOf(doorFree, 0, 0, 9) {
			t.Errorf("epoch %d: %x", epoch, got[doorAt])
		}
	}
}

// The door for each slot of each house: its own desk counts, and no other.
func TestEachDesk(t *testing.T) {
	for _, c := range everyHouse() {
		if c.Lease != 3 {
			continue
		}
		for slot := range mostSlot + 1 {
			w := standing(c, modelOpen(c.Slots, c.Pages), stampThree)
			for desk := range c.Slots {
				writeDesk(w, c, desk, 8, changeOf(beatAt(c, 0), 100+desk, 8))
			}
			w[doorAt] = doorOf(doorDone, slot, 5, 8)
			got := seeDone(t, "desk", w, c)
			if slot < c.Slots && got[beatAt(c, 0)] != wordOf(100+slot, 8) {
				t.Fatalf("%v: slot %d: %x", c, slot, got[beatAt(c, 0)])
			}
			if slot >= c.Slots && !slices.Equal(got, w) {
				t.Fatalf("%v: slot %d is none: %v", c, slot, got)
			}
		}
	}
}

// From none to as many changes as a desk has room for; the words behind them,
// which the first word does not count, are no changes, nor is the next desk.
func TestSoManyChanges(t *testing.T) {
	c := deskHouse
	for many := 0; many <= mostChanges+2; many++ {
		w := standing(c, deskBook(), stampThree)
		for i := range mostChanges {
			w[deskAt(c, 0)+1+i] = changeOf(tagAt(c, i%16), 50+i, 8)
		}
		// If the desk were longer, these would be changes, too.
		writeDesk(w, c, 1, 8, changeOf(clockAt, 6, 8))
		w[deskAt(c, 0)] = wordOf(many, 8)
		w[doorAt] = doorOf(doorDone, 0, 2, 8)
		got := seeDone(t, "so many", w, c)
		for i := range 16 {
			turned := i < many && many <= mostChanges
			if want := wordOf(50+i, 8); turned != (got[tagAt(c, i)] == want) {
				t.Fatalf("%d changes: change %d: %x", many, i, got[tagAt(c, i)])
			}
		}
		if got[clockAt] != w[clockAt] {
			t.Fatalf("%d changes: the next desk counts", many)
		}
	}
}

// The stamp of the word at the address: a change is carried out only where it is
// below the change's.
func TestStampsOfTheWord(t *testing.T) {
	c := deskHouse
	at := linkAt(c, 9)
	for _, stamp := range []int{1, 2, 8, magic, magic + 1, mostHalf - 1, mostHalf} {
		for _, has := range []int{0, 1, stamp - 1, stamp, min(stamp+1, mostHalf), mostHalf} {
			w := standing(c, deskBook(), func(int) int { return 0 })
			w[at] = wordOf(40, has)
			writeDesk(w, c, 2, stamp, changeOf(at, mostVal, stamp))
			w[doorAt] = doorOf(doorDone, 2, 0, stamp)
			want := w[at]
			if has < stamp {
				want = wordOf(mostVal, stamp)
			}
			got := seeDone(t, "stamps", w, c)
			if got[at] != want {
				t.Errorf("stamp %d on %d: %x", stamp, has, got[at])
			}
			if next := min(stamp+1, mostHalf); got[doorAt] != doorOf(doorFree, 0, 0, next) {
				t.Errorf("stamp %d: the door is %x", stamp, got[doorAt])
			}
		}
	}
	// With a stamp of 0 nothing is below, but it is done.
	w := standing(c, deskBook(), func(int) int { return 0 })
	writeDesk(w, c, 2, 0, changeOf(at, 7, 0))
	w[doorAt] = doorOf(doorDone, 2, 0, 0)
	if got := seeDone(t, "stamp 0", w, c); got[at] != w[at] || got[doorAt] != doorOf(doorFree, 0, 0, 1) {
		t.Errorf("stamp 0: %x, %x", got[at], got[doorAt])
	}
}

// A word of the desk whose stamp is not the door's is no change, and those
// behind it are.
func TestWordsThatAreNoChanges(t *testing.T) {
	c := deskHouse
	for _, stamp := range []int{0, 7, 9, mostHalf} {
		for place := range 3 {
			w := takingByDesk(8)
			at := deskAt(c, 1) + 1 + place
			w[at] = wordOf(valOf(w[at]), stamp)
			got := seeDone(t, "no change", w, c)
			for i, turned := range []int{headAt(c, 1), tagAt(c, 2), linkAt(c, 2)} {
				if (stampOf(got[turned]) == 8) != (i != place) {
					t.Errorf("stamp %d at place %d: change %d: %x", stamp, place, i, got[turned])
				}
			}
		}
	}
}

// An address that is none turns nothing; one of any word turns that one.
func TestAddressesOfChanges(t *testing.T) {
	c := deskHouse
	for at := range mostAddr + 1 {
		w := takingByDesk(8)
		room := append(slices.Clone(w), make([]uint64, 4000)...)
		w = room[:len(w)]
		w[deskAt(c, 1)+1] = changeOf(at, 11, 8)
		before := slices.Clone(w)
		got := impl.CensDone(w)
		if !slices.Equal(got, modelDone(w, c)) {
			t.Fatalf("address %d: %v", at, got)
		}
		if !slices.Equal(w, before) || slices.Max(room[len(w):]) != 0 {
			t.Fatalf("address %d: wrote into the words that were handed in", at)
		}
	}
}

// A change of the first word, of the clock, of the door and of desks.
func TestChangesOfWordsThatAreNoRooms(t *testing.T) {
	c := deskHouse
	stamp := magic + 1
	w := standing(c, deskBook(), stampThree)
	writeDesk(w, c, 1, stamp,
		changeOf(0, valOf(firstOf(c)), stamp),
		changeOf(clockAt, 1234, stamp),
		changeOf(doorAt, 1, stamp),
		changeOf(deskAt(c, 1), 1, stamp),
		changeOf(deskAt(c, 2)+20, 99, stamp))
	w[doorAt] = doorOf(doorDone, 1, 1, stamp)
	got := seeDone(t, "no rooms", w, c)
	want := slices.Clone(w)
	want[0] = wordOf(valOf(firstOf(c)), stamp)
	want[clockAt] = wordOf(1234, stamp)
	want[deskAt(c, 2)+20] = wordOf(99, stamp)
	want[doorAt] = doorOf(doorFree, 0, 0, stamp+1)
	if !slices.Equal(got, want) {
		t.Errorf("%v, not %v", got, want)
	}
	if x, ok := censTrue(t, w); ok {
		t.Errorf("the words name no house any more: %v", x)
	}
}

// A word of the desk that a change turns does not become a change by that.
func TestAChangeOfAWordOfTheDesk(t *testing.T) {
	c := deskHouse
	stamp := magic + 5
	w := standing(c, deskBook(), stampThree)
	// What is written there has the address 0, whose stamp is below.
	writeDesk(w, c, 0, stamp, changeOf(deskAt(c, 0)+2, 77, stamp), wordOf(0, 4))
	w[doorAt] = doorOf(doorDone, 0, 1, stamp)
	got := seeDone(t, "desk", w, c)
	if got[0] != w[0] || got[deskAt(c, 0)+2] != wordOf(77, stamp) {
		t.Errorf("%x, %x", got[0], got[deskAt(c, 0)+2])
	}
}

// Of changes of one word the first counts, as then its stamp is not below.
func TestChangesOfOneWordTwice(t *testing.T) {
	c := deskHouse
	w := standing(c, deskBook(), stampThree)
	at := pageAt(c, 1)
	writeDesk(w, c, 0, 6, changeOf(at, 4, 6), changeOf(at, 9, 6), changeOf(clockAt, 5, 6), changeOf(at, 0, 6))
	w[doorAt] = doorOf(doorDone, 0, 1, 6)
	if got := seeDone(t, "twice", w, c); got[at] != wordOf(4, 6) || got[clockAt] != wordOf(5, 6) {
		t.Errorf("%x, %x", got[at], got[clockAt])
	}
}

// Words that are not those of a house are as they are, and stand for no book;
// so are those without desks.
func TestNothingIsDoneInWordsOfNoHouse(t *testing.T) {
	c := deskHouse
	whole := append(takingByDesk(8), make([]uint64, 25)...)
	for n := range whole {
		if n == sizeOf(c) {
			continue
		}
		w := whole[:n]
		if got := censDone(t, w); !slices.Equal(got, w) {
			t.Errorf("%d words: %v", n, got)
		}
		if x, ok := censTrue(t, w); ok {
			t.Errorf("%d words: %v", n, x)
		}
	}
	for _, first := range wrongFirstWords(c) {
		w := takingByDesk(8)
		w[0] = first
		if got := censDone(t, w); !slices.Equal(got, w) {
			t.Errorf("first word %x: %v", first, got)
		}
		if x, ok := censTrue(t, w); ok {
			t.Errorf("first word %x: %v", first, x)
		}
	}
	if got := censDone(t, nil); len(got) != 0 {
		t.Errorf("no words: %v", got)
	}
}

// deskByModel is words in which a call was done and nothing of it carried out:
// its changes stand on the desk of its slot.
func deskByModel(b impl.Book, x impl.Book, slot int, c impl.PlatCfg, stamp int) ([]uint64, []uint64) {
	w := standing(c, b, stampThree)
	changes := modelPlan(b, x, stamp)
	writeDesk(w, c, slot, stamp, changes...)
	w[doorAt] = doorOf(doorDone, slot, b.Epoch[slot]%4096, stamp)
	return w, changes
}

// P12: calls of many books, done and left for anybody to carry out: the true
// book is the one behind the call; carried out once more nothing turns; a part
// carried out ahead makes no difference, whichever it is and in whichever order.
func TestDoneAndCarriedOut(t *testing.T) {
	d := dice(12)
	turned := 0
	for i, b := range booksAsked(300, 25) {
		c := houseOf(b, 1+i%mostLease)
		for range 12 {
			op := d.anyOp(b)
			if op.Slot < 0 || op.Slot >= b.Slots {
				continue
			}
			x, _, _ := modelDo(b, op)
			w, changes := deskByModel(b, x, op.Slot, c, 30)
			if len(changes) > 0 {
				turned++
			}
			want := seeDone(t, "whole", w, c)
			if got, ok := censTrue(t, w); !ok || !alike(got, x) {
				t.Fatalf("%v: %v: %v, %v, not %v", b, op, ok, got, x)
			}
			part := slices.Clone(w)
			for range d.below(2*len(changes) + 1) {
				part = modelCarry(part, changes[d.below(len(changes))])
			}
			if got := seeDone(t, "a part", part, c); !slices.Equal(got, want) {
				t.Fatalf("%v: %v: a part carried out ahead: %v, not %v", b, op, got, want)
			}
			if got, ok := censTrue(t, part); !ok || !alike(got, x) {
				t.Fatalf("%v: %v: a part carried out ahead: %v, %v, not %v", b, op, ok, got, x)
			}
		}
	}
	if turned < 200 {
		t.Error("too few calls turned anything:", turned)
	}
}

// P12, each part of one call: all eight of its three changes.
func TestEachPartCarriedOutAhead(t *testing.T) {
	w := takingByDesk(8)
	changes, _ := modelChanges(w, deskHouse)
	want := censDone(t, w)
	for part := range 8 {
		ahead := slices.Clone(w)
		for i, change := range changes {
			if part>>i%2 == 1 {
				ahead = modelCarry(ahead, change)
			}
		}
		if got := seeDone(t, "part", ahead, deskHouse); !slices.Equal(got, want) {
			t.Errorf("part %d: %v, not %v", part, got, want)
		}
	}
}

// The true book where nothing is done is the book as the words are; where it is
// none, there is none.
func TestTrueBookWhereNothingIsDone(t *testing.T) {
	for i, b := range booksAsked(300, 40) {
		c := houseOf(b, 1+i%mostLease)
		w := standing(c, b, stampThree)
		if got, ok := censTrue(t, w); !ok || !alike(got, b) {
			t.Fatalf("%v, %v, not %v", ok, got, b)
		}
		w[headAt(c, 3)] = wordOf(8*c.Pages+1, 3)
		if got, ok := censTrue(t, w); ok {
			t.Fatalf("a head leads nowhere: %v", got)
		}
	}
}

// What is done may make a book of words that stand for none, and none of words
// that stand for one.
func TestDoneMakesAndUnmakesABook(t *testing.T) {
	c := deskHouse
	w := takingByDesk(8)
	w[deskAt(c, 1)] = wordOf(2, 8)
	if got, ok := censTrue(t, w); ok {
		t.Errorf("a link is left: %v", got)
	}
	w = takingByDesk(8)
	w[tagAt(c, 2)] = wordOf(3, 3)
	if _, ok := censBook(t, w); ok {
		t.Error("an owner who is not in")
	}
	if got, ok := censTrue(t, w); !ok || !alike(got, taken()) {
		t.Errorf("%v, %v", ok, got)
	}
}

// Desks and doors thrown at random, held against the model.
func TestDesksThrown(t *testing.T) {
	d := dice(44)
	for i, b := range booksAsked(200, 20) {
		c := houseOf(b, 1+i%mostLease)
		for range 10 {
			w := standing(c, b, func(int) int { return d.below(6) })
			for at := deskAt(c, 0); at < len(w); at++ {
				w[at] = changeOf(d.below(len(w)+10), d.below(60), 3+d.below(3))
			}
			for slot := range c.Slots {
				w[deskAt(c, slot)] = wordOf(d.below(23), 3+d.below(3))
			}
			w[doorAt] = doorOf(1+d.below(2), d.below(c.Slots+1), d.below(9), 3+d.below(3))
			seeDone(t, "thrown", w, c)
		}
	}
}
