package tests

import (
	"slices"
	"strconv"
	"testing"

	"loop.example/hostel/impl"
)

// modelCarryAll is words with changes carried out, in order.
func modelCarryAll(w []uint64, list []uint64) []uint64 {
	out := slices.Clone(w)
	for _, change := range list {
		out = modelCarry(out, change)
	}
	return out
}

// planDo is PlanDo, with its memory looked at.
func planDo(t *testing.T, w []uint64, list []uint64) []uint64 {
	t.Helper()
	words, wordsAsTheyWere := lendWords(w)
	changes, changesAsTheyWere := lendWords(list)
	got := impl.PlanDo(words, changes)
	answer := slices.Clone(got)
	spoilList(got)
	if !wordsAsTheyWere() || !changesAsTheyWere() {
		t.Fatalf("what was handed in is not as it was: %x, %x", w, list)
	}
	return answer
}

// seeCarried holds PlanDo against the model.
func seeCarried(t *testing.T, why string, w []uint64, list []uint64) []uint64 {
	t.Helper()
	want := modelCarryAll(w, list)
	got := planDo(t, w, list)
	if !slices.Equal(got, want) {
		t.Fatalf("%s: %x, not %x", why, got, want)
	}
	return got
}

// No changes: the words as they are, whatever they are.
func TestNoChanges(t *testing.T) {
	b := bookOfKinds()
	for _, w := range [][]uint64{nil, {}, {0}, {1, 2, 3}, takingByDesk(8), standing(houseOf(b, 5), b, stampThree)} {
		for _, list := range [][]uint64{nil, {}} {
			if got := planDo(t, w, list); !slices.Equal(got, w) {
				t.Errorf("%x, not %x", got, w)
			}
		}
	}
}

// A change turns the word at its address, its value and its stamp, and no other
// one, where the word's stamp is below; where it is the same or above, nothing.
func TestStampsOfChanges(t *testing.T) {
	c := deskHouse
	at := tagAt(c, 2)
	for _, stamp := range []int{0, 1, 2, 8, magic, mostPlan, mostPlan + 1, mostHalf - 1, mostHalf} {
		for _, has := range []int{0, 1, max(stamp-1, 0), stamp, min(stamp+1, mostHalf), mostHalf} {
			for _, val := range []int{0, 1, 40, mostVal} {
				w := standing(c, deskBook(), stampThree)
				w[at] = wordOf(40, has)
				want := slices.Clone(w)
				if has < stamp {
					want[at] = wordOf(val, stamp)
				}
				if got := planDo(t, w, []uint64{changeOf(at, val, stamp)}); !slices.Equal(got, want) {
					t.Errorf("stamp %d on %d, value %d: %x", stamp, has, val, got[at])
				}
			}
		}
	}
}

// Of changes of one word each is carried out whose stamp is above all ahead of
// it: of two with one stamp the first counts.
func TestOneWordChangedTwice(t *testing.T) {
	c := deskHouse
	at := linkAt(c, 9)
	for _, s := range []struct {
		list []uint64
		want uint64
	}{
		{[]uint64{changeOf(at, 7, 6), changeOf(at, 9, 6)}, wordOf(7, 6)},
		{[]uint64{changeOf(at, 7, 6), changeOf(at, 9, 7)}, wordOf(9, 7)},
		{[]uint64{changeOf(at, 7, 7), changeOf(at, 9, 6)}, wordOf(7, 7)},
		{[]uint64{changeOf(at, 7, 6), changeOf(at, 7, 6)}, wordOf(7, 6)},
		{[]uint64{changeOf(at, 7, 3), changeOf(at, 9, 4)}, wordOf(9, 4)},
		{[]uint64{changeOf(at, 7, 4), changeOf(at, 9, 3), changeOf(at, 8, 5)}, wordOf(8, 5)},
		{[]uint64{changeOf(at, 7, 2), changeOf(at, 9, 3)}, wordOf(0, 3)},
	} {
		w := standing(c, deskBook(), stampThree)
		if got := seeCarried(t, "twice", w, s.list); got[at] != s.want {
			t.Errorf("%x: %x, not %x", s.list, got[at], s.want)
		}
	}
}

// Each address: that of any word turns that one, be it the first, the clock, the
// door, a beat or of a desk; one that is none turns nothing, and what is behind
// it in the list is carried out still.
func TestEachAddress(t *testing.T) {
	stamp := magic + 1
	for _, c := range []impl.PlatCfg{{Slots: 1, Pages: 1, Lease: 1}, deskHouse, {Slots: 4, Pages: 6, Lease: 20}} {
		w := standing(c, modelOpen(c.Slots, c.Pages), stampThree)
		for at := range mostAddr + 1 {
			list := []uint64{changeOf(at, 11, stamp), changeOf(pageAt(c, 0), 4, stamp+1)}
			want := slices.Clone(w)
			if at < sizeOf(c) {
				want[at] = wordOf(11, stamp)
			}
			want[pageAt(c, 0)] = wordOf(4, stamp+1)
			if got := seeCarried(t, "address", w, list); !slices.Equal(got, want) {
				t.Fatalf("%v, address %d: %x", c, at, got)
			}
		}
	}
}

// Words that are not those of a house are carried out in, too: the chapter says
// of no words that nothing is.
func TestChangesInWordsOfNoHouse(t *testing.T) {
	c := deskHouse
	whole := append(standing(c, deskBook(), stampThree), make([]uint64, 25)...)
	list := []uint64{changeOf(headAt(c, 1), 5, 8), changeOf(tagAt(c, 2), 2, 8), changeOf(linkAt(c, 2), 0, 8), changeOf(sizeOf(c)+3, 1, 8)}
	for n := range whole {
		seeCarried(t, strconv.Itoa(n)+" words", whole[:n], list)
	}
	for _, first := range wrongFirstWords(c) {
		w := standing(c, deskBook(), stampThree)
		w[0] = first
		if got := seeCarried(t, "another first word", w, list); got[tagAt(c, 2)] != wordOf(2, 8) {
			t.Errorf("first word %x: %x", first, got[tagAt(c, 2)])
		}
	}
	for _, w := range [][]uint64{nil, {0}, {5}, {wordOf(9, 7), wordOf(9, 8)}} {
		for _, change := range append(anyWords(), changeOf(0, 1, 8), changeOf(1, 1, 8), changeOf(2, 1, 8)) {
			seeCarried(t, "few words", w, []uint64{change})
		}
	}
}

// Any words as changes: all are read as such, whatever they say.
func TestAnyWordsAsChanges(t *testing.T) {
	d := dice(51)
	for i, b := range booksAsked(100, 40) {
		c := houseOf(b, 1+i%mostLease)
		w := standing(c, b, func(int) int { return d.below(9) })
		var list []uint64
		for range d.below(60) {
			list = append(list, changeOf(d.below(sizeOf(c)+5), d.below(60), d.below(10)))
		}
		seeCarried(t, "thrown", w, append(list, anyWords()...))
	}
}

// Changes that are a piece of the words: they are those that came in, whatever
// is turned there meanwhile.
func TestChangesThatAreAPieceOfTheWords(t *testing.T) {
	c := deskHouse
	w := takingByDesk(8)
	desk := deskAt(c, 1)
	w[desk+1] = changeOf(desk+2, 77, 9)
	want := modelCarryAll(w, slices.Clone(w[desk+1:desk+4]))
	before := slices.Clone(w)
	got := impl.PlanDo(w, w[desk+1:desk+4])
	if !slices.Equal(got, want) || got[tagAt(c, 2)] != wordOf(2, 8) || got[desk+2] != wordOf(77, 9) {
		t.Errorf("%x, not %x", got, want)
	}
	spoilList(got)
	if !slices.Equal(w, before) {
		t.Error("the words that were handed in are not as they were")
	}
}

// behind is the words behind a plan with a number greater than all stamps: what
// turns has the values of a book and that number; all else is as it was.
func behind(w []uint64, c impl.PlatCfg, x impl.Book, stamp int) []uint64 {
	out := slices.Clone(w)
	for at, val := range modelLay(x) {
		front := at <= doorAt || between(at, beatAt(c, 0), beatAt(c, c.Slots)-1)
		if !front && valOf(w[at]) != val {
			out[at] = wordOf(val, stamp)
		}
	}
	return out
}

// seePromised holds P13 of a call: its changes, carried out, leave words that
// stand for the book behind it; in any order and twice it is the same; and they
// are not too many. Its answer is how many words turned.
func seePromised(t *testing.T, d *dice, b impl.Book, w []uint64, op impl.BookOp, stamp int) int {
	t.Helper()
	x, _, _ := modelDo(b, op)
	c := houseOf(b, 1)
	for _, words := range [][]uint64{w, withoutDesks(c, w)} {
		list, _, _ := planOf(t, words, op, stamp)
		if len(list) > mostChanges {
			t.Fatalf("%v of %v: %d changes: %x", op, b, len(list), list)
		}
		want := behind(words, c, x, stamp)
		for name, order := range ordersOf(d, list) {
			if got := planDo(t, words, order); !slices.Equal(got, want) {
				t.Fatalf("%s: %v of %v: %x, not %x", name, op, b, got, want)
			}
		}
		if again := planDo(t, want, list); !slices.Equal(again, want) {
			t.Fatalf("once more: %v of %v: %x, not %x", op, b, again, want)
		}
		if got, ok := censBook(t, want); !ok || !alike(got, x) {
			t.Fatalf("%v of %v: %v, %v, not %v", op, b, ok, got, x)
		}
	}
	return len(w) - sameWords(w, behind(w, c, x, stamp))
}

// sameWords is how many words are the same in both.
func sameWords(a []uint64, b []uint64) int {
	same := 0
	for at := range a {
		if a[at] == b[at] {
			same++
		}
	}
	return same
}

// ordersOf are orders in which changes may be carried out, each of them at least
// once.
func ordersOf(d *dice, list []uint64) map[string][]uint64 {
	back := slices.Clone(list)
	slices.Reverse(back)
	mixed := slices.Concat(list, back)
	for i := len(mixed) - 1; i > 0; i-- {
		j := d.below(i + 1)
		mixed[i], mixed[j] = mixed[j], mixed[i]
	}
	return map[string][]uint64{
		"in order":         list,
		"turned round":     back,
		"twice":            slices.Concat(list, list),
		"to and fro":       slices.Concat(list, back),
		"thrown":           mixed,
		"a part of it too": slices.Concat(list[:len(list)/2], back, list[len(list)/2:]),
	}
}

// callsOf are calls of a book, thrown, and for each slot those that are seldom
// thrown where they turn something.
func callsOf(d *dice, b impl.Book) []impl.BookOp {
	var ops []impl.BookOp
	for range 40 {
		ops = append(ops, d.anyOp(b))
	}
	for slot := range b.Slots {
		ops = append(ops, impl.BookOp{Kind: enters, Slot: slot}, impl.BookOp{Kind: leaves, Slot: slot})
		for by := range b.Slots {
			ops = append(ops, impl.BookOp{Kind: reaps, Slot: by, A: slot})
		}
	}
	return ops
}

// P13, of calls of books of all houses. Words that a call leaves at their values
// keep their stamps.
func TestPlansCarriedOut(t *testing.T) {
	d := dice(13)
	turned := map[int]int{}
	for i, b := range append(booksAsked(300, 30), wornBook(), scattered()) {
		c := houseOf(b, 1)
		w := standing(c, b, func(int) int { return d.below(magic) })
		for slot := range c.Slots {
			writeDesk(w, c, slot, 9, changeOf(clockAt, i, 9))
		}
		for _, op := range callsOf(&d, b) {
			if seePromised(t, &d, b, w, op, magic+1+d.below(5)) > 0 {
				turned[op.Kind]++
			}
		}
	}
	for kind := enters; kind <= reaps; kind++ {
		if turned[kind] < 5 {
			t.Errorf("kind %d turned something only %d times", kind, turned[kind])
		}
	}
}

// P13 where most words turn: a page of each kind whose first room is taken, and
// whose last room is given back, among free rooms in any order.
func TestMostWordsCarriedOut(t *testing.T) {
	d := dice(31)
	most := 0
	for _, units := range []int{1, 2, 4, 8, 16, 24, 32} {
		b := guestsIn(mostSlots, mostPages)
		op := impl.BookOp{Kind: takes, Slot: 3, A: units}
		most = max(most, seePromised(t, &d, b, standing(houseOf(b, 1), b, stampThree), op, 4))
		x, _, at := modelDo(b, op)
		op = impl.BookOp{Kind: gives, Slot: 3, A: at}
		most = max(most, seePromised(t, &d, x, standing(houseOf(b, 1), x, stampThree), op, 4))
	}
	for page := range mostPages {
		b := scattered()
		op := impl.BookOp{Kind: gives, Slot: page % 4, A: 8 * page}
		most = max(most, seePromised(t, &d, b, standing(houseOf(b, 1), b, stampThree), op, 4))
	}
	if most != 16 {
		t.Error("the most words that turned:", most)
	}
}

// P13, every order of a plan's changes: each of the 120 of five.
func TestEveryOrder(t *testing.T) {
	b := bookOfRows()
	w := standing(houseOf(b, 1), b, stampThree)
	list, _, _ := planOf(t, w, impl.BookOp{Kind: gives, Slot: 1, A: 8}, 4)
	if len(list) != 5 {
		t.Fatalf("%x", list)
	}
	want := planDo(t, w, list)
	orders := 0
	eachRow([][]int{{0, 1, 2, 3, 4}, {0, 1, 2, 3, 4}, {0, 1, 2, 3, 4}, {0, 1, 2, 3, 4}, {0, 1, 2, 3, 4}}, func(n []int) {
		var order []uint64
		seen := map[int]int{}
		for _, i := range n {
			order = append(order, list[i])
			seen[i]++
		}
		if len(seen) < len(list) {
			return
		}
		orders++
		if got := planDo(t, w, order); !slices.Equal(got, want) {
			t.Errorf("%v: %x, not %x", n, got, want)
		}
	})
	if orders != 120 {
		t.Error("orders:", orders)
	}
}

// A number just above all stamps, at both ends of those that a plan may have.
func TestNumbersOfPlansCarriedOut(t *testing.T) {
	t.Parallel()
	d := dice(7)
	b := bookOfKinds()
	for _, stamp := range []int{1, 2, magic, magic + 1, mostPlan - 1, mostPlan} {
		w := standing(houseOf(b, 1), b, func(int) int { return stamp - 1 })
		everyOp(b, func(op impl.BookOp) {
			if op.Slot != 1 {
				seePromised(t, &d, b, w, op, stamp)
			}
		})
	}
}

// Changes with an old number: those of words that have it already, or a greater
// one, turn nothing; the others are carried out.
func TestOldNumbers(t *testing.T) {
	b := bookOfKinds()
	c := houseOf(b, 1)
	op := impl.BookOp{Kind: takes, Slot: 0, A: 2}
	turns := []int{headAt(c, 1), tagAt(c, 14), linkAt(c, 14)}
	for _, has := range []int{8, 9, mostHalf} {
		w := standing(c, b, func(int) int { return has })
		list, code, _ := planOf(t, w, op, 8)
		if code != codeDone || len(list) != len(turns) {
			t.Fatalf("stamps %d: %x, %d", has, list, code)
		}
		if got := planDo(t, w, list); !slices.Equal(got, w) {
			t.Errorf("stamps %d: %x, not %x", has, got, w)
		}
		for _, newer := range turns {
			w := standing(c, b, stampThree)
			w[newer] = wordOf(valOf(w[newer]), has)
			got := seeCarried(t, "one of them newer", w, list)
			for _, at := range turns {
				if (got[at] == w[at]) != (at == newer) {
					t.Errorf("stamp %d at %d: %d is %x", has, newer, at, got[at])
				}
			}
		}
	}
}

// Calls one behind the other, from an empty house on: each is planned and carried
// out with the next number, and the changes of all calls ahead, which are old
// then, turn nothing any more.
func TestCallsOneBehindTheOther(t *testing.T) {
	for _, c := range []impl.PlatCfg{{Slots: 1, Pages: 1, Lease: 1}, {Slots: 2, Pages: 3, Lease: 3}, {Slots: 4, Pages: 6, Lease: 20}, {Slots: 4, Pages: 1, Lease: 2}, {Slots: 1, Pages: 6, Lease: 9}} {
		d := dice(100*c.Slots + c.Pages)
		b := modelOpen(c.Slots, c.Pages)
		w := impl.PlatFormat(c)
		var old []uint64
		for number := 1; number <= 1000; number++ {
			var list []uint64
			list, b = oneMore(t, &d, c, b, w, number)
			w = planDo(t, w, list)
			if got, ok := censBook(t, w); !ok || !alike(got, b) {
				t.Fatalf("%v, call %d: %v, %v, not %v", c, number, ok, got, b)
			}
			old = append(old, list...)
			if got := planDo(t, w, old); !slices.Equal(got, w) {
				t.Fatalf("%v, call %d: old changes turn something: %x, not %x", c, number, got, w)
			}
		}
		if len(old) < 200 {
			t.Errorf("%v: only %d changes", c, len(old))
		}
	}
}

// oneMore is the changes of a thrown call, and the book behind it; or those by
// which somebody is cut off, as no call does that.
func oneMore(t *testing.T, d *dice, c impl.PlatCfg, b impl.Book, w []uint64, number int) ([]uint64, impl.Book) {
	t.Helper()
	op := d.anyOp(b)
	slot := d.below(c.Slots)
	switch d.below(12) {
	case 0:
		x := modelCut(b, slot)
		return modelPlan(b, x, number), x
	case 1, 2:
		op = impl.BookOp{Kind: enters, Slot: slot}
	case 3, 4, 5:
		op = impl.BookOp{Kind: reaps, Slot: d.below(c.Slots), A: slot}
	}
	x, wantCode, wantVal := modelDo(b, op)
	list, code, val := planOf(t, w, op, number)
	if code != wantCode || val != wantVal {
		t.Fatalf("%v, call %d: %v: %d, %d, not %d, %d", c, number, op, code, val, wantCode, wantVal)
	}
	return list, x
}
