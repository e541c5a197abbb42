package tests

import (
	"slices"
	"testing"

	"loop.example/hostel/impl"
)

// everyOp are the calls that may mean something in a book, and those next to
// them that mean nothing.
func everyOp(b impl.Book, see func(op impl.BookOp)) {
	for slot := -1; slot <= b.Slots; slot++ {
		for kind := 0; kind <= 7; kind++ {
			first, last, whom := 0, 0, 0
			switch kind {
			case takes:
				last = 33
			case gives, hands:
				first, last = -1, len(b.Owner)
			case reaps:
				first, last = -1, b.Slots
			}
			if kind == hands {
				whom = b.Slots
			}
			for a := first; a <= last; a++ {
				for to := -1; to <= whom; to++ {
					see(impl.BookOp{Kind: kind, Slot: slot, A: a, B: to})
				}
			}
		}
	}
}

// eachUnitOnce asks of a book, besides BookOk, that each unit is in one room
// that somebody has, or in one free room, or on an empty page.
func eachUnitOnce(b impl.Book) bool {
	times := make([]int, len(b.Owner))
	claim := func(first int, many int) bool {
		if first < 0 || first+many > len(times) {
			return false
		}
		for unit := first; unit < first+many; unit++ {
			times[unit]++
		}
		return true
	}
	for at := range b.Owner {
		if !claim(at, impl.BookRoom(b, at)) {
			return false
		}
	}
	for kind, heads := range b.Heads {
		for _, unit := range heads {
			if !claim(unit, 1<<kind) {
				return false
			}
		}
	}
	for page, what := range b.Pages {
		if what == empty && !claim(8*page, 8) {
			return false
		}
	}
	return slices.Min(times) == 1 && slices.Max(times) == 1
}

// P5 and P6, over long walks through every house: what is called leaves a book
// that is ok, and is what the chapter says; what may not be done turns nothing.
func TestWalks(t *testing.T) {
	codes := map[int]int{}
	for slots := 1; slots <= 4; slots++ {
		for pages := 1; pages <= 6; pages++ {
			d := dice(7000*slots + 31*pages)
			b := guestsIn(slots, pages)
			b.Epoch[slots-1] = 4090
			for range 1500 {
				op := d.anyOp(b)
				if d.below(30) == 0 {
					b = bookCut(t, b, op.Slot)
				}
				if d.below(10) == 0 {
					op = impl.BookOp{Kind: []int{enters, leaves, reaps}[d.below(3)], Slot: d.below(slots), A: d.below(slots)}
				}
				x, code, val := bookDo(t, b, op)
				want, wantCode, wantVal := modelDo(b, op)
				if code != wantCode || val != wantVal || !alike(x, want) {
					t.Fatalf("%v of %v: %v, %d, %d, not %v, %d, %d", op, b, x, code, val, want, wantCode, wantVal)
				}
				if !impl.BookOk(x) || !modelOk(x) || !eachUnitOnce(x) {
					t.Fatalf("%v of %v: %v is not ok", op, b, x)
				}
				if code != codeDone && code != codeMore && (!alike(x, b) || val != 0) {
					t.Fatalf("%v of %v: code %d, but it turned: %v, %d", op, b, code, x, val)
				}
				codes[code]++
				b = x
			}
		}
	}
	for _, code := range []int{codeDone, codeSize, codeFull, codeWhere, codeWhose, codeWhom, codeTaken, codeKeeps, codeLives, codeNobody, codeMore, codeWorn, codeNone} {
		if codes[code] == 0 {
			t.Errorf("no call was answered with %d", code)
		}
	}
}

// P5: every call of many books.
func TestEveryCallOfManyBooks(t *testing.T) {
	books := append(someBooks(300, 50), bookOfKinds(), bookOfRows(), bookOfThree())
	for _, b := range books {
		everyOp(b, func(op impl.BookOp) {
			x, code, val := impl.BookDo(b, op)
			want, wantCode, wantVal := modelDo(b, op)
			if code != wantCode || val != wantVal || !alike(x, want) || !impl.BookOk(x) {
				t.Fatalf("%v of %v: %v, %d, %d, not %v, %d, %d", op, b, x, code, val, want, wantCode, wantVal)
			}
		})
	}
}

// P5: all books that a small house can come to by few calls.
func TestAllBooksOfASmallHouse(t *testing.T) {
	front := []impl.Book{guestsIn(2, 2)}
	met := map[string]bool{}
	for range 4 {
		var next []impl.Book
		for _, b := range front {
			everyOp(b, func(op impl.BookOp) {
				x, code, _ := impl.BookDo(b, op)
				if code != codeDone && code != codeMore {
					if !alike(x, b) {
						t.Fatalf("%v of %v: code %d, but it turned", op, b, code)
					}
					return
				}
				if !impl.BookOk(x) || !eachUnitOnce(x) {
					t.Fatalf("%v of %v: %v is not ok", op, b, x)
				}
				if name := nameOf(x); !met[name] {
					met[name] = true
					next = append(next, x)
				}
			})
			for slot := range b.Slots {
				x := impl.BookCut(b, slot)
				if name := nameOf(x); !met[name] {
					met[name] = true
					next = append(next, x)
				}
			}
		}
		front = next
	}
	if len(met) < 1000 {
		t.Error("too few books:", len(met))
	}
}

// nameOf tells books apart.
func nameOf(b impl.Book) string {
	var name []byte
	for _, list := range listsOf(&b) {
		for _, n := range *list {
			name = append(name, byte(n), byte(n>>8))
		}
		name = append(name, 0xff, 0xff)
	}
	return string(name)
}

// P6: what is taken is given back at once. (The order of free rooms is the same
// too: where a page was new it is empty again, and none of its rooms is left.)
func TestTakenAndGivenBack(t *testing.T) {
	done := 0
	for _, b := range someBooks(400, 10) {
		for slot := range b.Slots {
			for units := 1; units <= 32; units++ {
				x, code, at := impl.BookDo(b, impl.BookOp{Kind: takes, Slot: slot, A: units})
				if code != codeDone {
					if !alike(x, b) {
						t.Fatalf("%d units: code %d, but it turned: %v, %v", units, code, b, x)
					}
					continue
				}
				done++
				if b.Owner[at] != 0 || impl.BookRoom(x, at) < units {
					t.Fatalf("%d units at %d: %v, %v", units, at, b, x)
				}
				back, code, _ := impl.BookDo(x, impl.BookOp{Kind: gives, Slot: slot, A: at})
				if code != codeDone || !alike(back, b) {
					t.Fatalf("%d units at %d: code %d, %v, not %v", units, at, code, back, b)
				}
			}
		}
	}
	if done < 1000 {
		t.Error("too few were taken:", done)
	}
}

// P7: whoever reaps, nobody else loses or gains anything, and it ends behind as
// many BookMore as there were rooms, each of them once, the first one first.
func TestReapingToTheEnd(t *testing.T) {
	most := 0
	for _, before := range someBooks(400, 10) {
		for dead := range before.Slots {
			for reaper := range before.Slots {
				b := impl.BookCut(before, dead)
				if b.In[dead] != cut || b.In[reaper] == out {
					continue
				}
				rooms := modelOf(b, dead)
				for i, room := range rooms {
					x, code, val := impl.BookDo(b, impl.BookOp{Kind: reaps, Slot: reaper, A: dead})
					if code != codeMore || val != room || !slices.Equal(impl.BookOf(x, dead), rooms[i+1:]) || x.In[dead] != cut {
						t.Fatalf("reaping %d of %v: %d %d, %v", dead, b, code, val, x)
					}
					b = x
				}
				x, code, val := impl.BookDo(b, impl.BookOp{Kind: reaps, Slot: reaper, A: dead})
				if code != codeDone || val != 0 || x.In[dead] != out || !impl.BookOk(x) {
					t.Fatalf("reaping %d of %v at last: %d %d, %v", dead, b, code, val, x)
				}
				for slot := range before.Slots {
					if slot != dead && (x.In[slot] != before.In[slot] || !slices.Equal(impl.BookOf(x, slot), modelOf(before, slot))) {
						t.Fatalf("reaping %d turned slot %d: %v, %v", dead, slot, before, x)
					}
				}
				for at, owner := range before.Owner {
					if owner != dead+1 && impl.BookRoom(x, at) != modelRoom(before, at) {
						t.Fatalf("reaping %d turned the room at %d: %v, %v", dead, at, before, x)
					}
				}
				if !slices.Equal(x.Epoch, before.Epoch) {
					t.Fatalf("reaping %d turned epochs: %v, %v", dead, before, x)
				}
				most = max(most, len(rooms))
			}
		}
	}
	if most < 8 {
		t.Error("nobody had many rooms:", most)
	}
}

// P8: a room goes from hand to hand and back.
func TestHandedOnAndBack(t *testing.T) {
	done := 0
	for _, b := range someBooks(400, 10) {
		for slot := range b.Slots {
			for to := range b.Slots {
				for _, at := range modelOf(b, slot) {
					x, code, _ := impl.BookDo(b, impl.BookOp{Kind: hands, Slot: slot, A: at, B: to})
					if b.In[to] == out {
						if code != codeWhom || !alike(x, b) {
							t.Fatalf("%d to %d, where nobody is in: %d, %v", at, to, code, x)
						}
						continue
					}
					if code != codeDone || !slices.Contains(impl.BookOf(x, to), at) || slot != to && slices.Contains(impl.BookOf(x, slot), at) {
						t.Fatalf("%d from %d to %d: %d, %v", at, slot, to, code, x)
					}
					back, code, _ := impl.BookDo(x, impl.BookOp{Kind: hands, Slot: to, A: at, B: slot})
					if code != codeDone || !alike(back, b) {
						t.Fatalf("%d from %d to %d and back: %d, %v, not %v", at, slot, to, code, back, b)
					}
					done++
				}
			}
		}
	}
	if done < 1000 {
		t.Error("too few were handed on:", done)
	}
}

// P9: who is cut off is in still, and keeps all rooms, whatever others call but
// reaping it.
func TestCutOffIsInStill(t *testing.T) {
	for _, before := range someBooks(300, 40) {
		for slot, in := range before.In {
			if in == out {
				continue
			}
			b := impl.BookCut(before, slot)
			rooms := modelOf(before, slot)
			if b.In[slot] != cut || !slices.Equal(impl.BookOf(b, slot), rooms) {
				t.Fatalf("slot %d of %v: %v", slot, before, b)
			}
			if _, code, _ := impl.BookDo(b, impl.BookOp{Kind: enters, Slot: slot}); code != codeTaken {
				t.Fatalf("somebody comes in at slot %d, code %d: %v", slot, code, b)
			}
			everyOp(b, func(op impl.BookOp) {
				if op.Slot == slot || op.Kind == reaps && op.A == slot {
					return
				}
				x, _, _ := impl.BookDo(b, op)
				if x.In[slot] != cut || x.Epoch[slot] != b.Epoch[slot] {
					t.Fatalf("%v turned who was cut off at slot %d: %v", op, slot, x)
				}
				for _, at := range rooms {
					if x.Owner[at] != slot+1 || impl.BookRoom(x, at) != modelRoom(b, at) {
						t.Fatalf("%v took the room at %d of slot %d: %v", op, at, slot, x)
					}
				}
			})
		}
	}
}

// P10: of each kind, what was given back last is taken first.
func TestLastBackIsFirstTaken(t *testing.T) {
	done := 0
	for _, b := range someBooks(400, 10) {
		for at, owner := range b.Owner {
			size := modelRoom(b, at)
			if size == 0 || size > 8 {
				continue
			}
			x, _, _ := impl.BookDo(b, impl.BookOp{Kind: gives, Slot: owner - 1, A: at})
			if x.Pages[at/8] == empty {
				continue
			}
			for slot := range b.Slots {
				if b.In[slot] == out {
					continue
				}
				if _, code, val := impl.BookDo(x, impl.BookOp{Kind: takes, Slot: slot, A: size}); code != codeDone || val != at {
					t.Fatalf("%d was given back, and %d taken, code %d: %v", at, val, code, x)
				}
				done++
			}
		}
	}
	if done < 1000 {
		t.Error("too few were given back:", done)
	}
}

// P10: several that were given back are taken in the reverse order.
func TestTakenInReverse(t *testing.T) {
	for _, size := range []int{1, 2, 4} {
		b := guestsIn(1, 6)
		var rooms []int
		for range 48 / size {
			x, at := taking(t, b, 0, size)
			b, rooms = x, append(rooms, at)
		}
		var given []int
		for i, at := range rooms {
			if i%(8/size) != 0 {
				b, given = giving(t, b, 0, at), append(given, at)
			}
		}
		slices.Reverse(given)
		if kind := modelKind(size); !slices.Equal(b.Heads[kind], given) {
			t.Fatalf("size %d: %v are free, not %v", size, b.Heads[kind], given)
		}
		for _, want := range given {
			x, at := taking(t, b, 0, size)
			if at != want {
				t.Fatalf("size %d: %d is taken, not %d", size, at, want)
			}
			b = x
		}
		seeSaid(t, b, []said{{impl.BookOp{Kind: takes, A: size}, codeFull, 0}})
	}
}
