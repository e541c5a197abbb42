package tests

import (
	"math"
	"strconv"
	"testing"

	"loop.example/hostel/impl"
)

// bearing is a kind of words of a house, in the house of the desks: where it
// lies, and whether a word of it may bear the door's own number while somebody
// holds the door.
type bearing struct {
	why   string
	from  int
	to    int
	holds bool
}

func bearings() []bearing {
	return []bearing{
		{"the register", 3, 5, false},
		{"heads", 9, 12, false},
		{"pages", 13, 14, false},
		{"owners", 15, 30, false},
		{"links", 31, 46, false},
		{"the first word of a desk", 47, 47, true},
		{"a desk", 48, 67, true},
		{"the first word of another desk", 68, 68, true},
		{"another desk", 69, 88, true},
		{"the first word of the last desk", 89, 89, true},
		{"the last desk", 90, 109, true},
	}
}

// Each word from the register on, with stamps around the door's, and with the
// door free, held and done, for each slot.
func TestNumbersOfWords(t *testing.T) {
	const number = 20
	for slot := range 4 {
		for _, area := range bearings() {
			for at := area.from; at <= area.to; at++ {
				for _, val := range []int{0, 1, mostHalf} {
					for state, own := range []bool{doorFree: false, doorHeld: area.holds, doorDone: true, 3: false} {
						why := area.why + ", the door at " + strconv.Itoa(state)
						door := doorOf(state, slot, 1, number)
						seeStamps(t, why+", no number", words{2: door, at: wordOf(val, 0)}.in(scene()), true)
						seeStamps(t, why+", one below", words{2: door, at: wordOf(val, number-1)}.in(scene()), true)
						seeStamps(t, why+", the door's", words{2: door, at: wordOf(val, number)}.in(scene()), own)
						seeStamps(t, why+", one above", words{2: door, at: wordOf(val, number+1)}.in(scene()), false)
						seeStamps(t, why+", the greatest", words{2: door, at: wordOf(val, mostHalf)}.in(scene()), false)
					}
				}
			}
		}
	}
}

// What is ahead of the register, and the beats, may bear any number.
func TestWordsThatBearAnyNumber(t *testing.T) {
	for state := range 4 {
		for _, at := range []int{1, 6, 7, 8} {
			for _, stamp := range []int{0, 1, 19, 20, 21, 4095, 4096, mostHalf} {
				w := words{2: doorOf(state, 1, 1, 20), at: wordOf(mostHalf, stamp)}.in(scene())
				seeStamps(t, "any number", w, true)
			}
		}
	}
	// The first word has the number of a house, however low that of the door is.
	for number := range 10 {
		w := words{2: doorOf(doorFree, 0, 0, number)}.in(scene())
		seeStamps(t, "the stamp of the house", w, number > 3)
	}
}

// In each house with each door: the first word and the last one of each part, and
// what lies just ahead of it and behind it.
func TestNumbersOfWordsOfHouses(t *testing.T) {
	for _, c := range everyHouse() {
		if c.Lease > 1 {
			continue
		}
		for _, number := range []int{1, 2, 1000000, mostHalf} {
			for state := range 3 {
				w := impl.PlatFormat(c)
				w[2] = doorOf(state, c.Slots-1, 1, number)
				seeStamps(t, "as it is", w, true)
				for at := 1; at < sizeOf(c); at++ {
					if at == doorAt {
						continue
					}
					was := w[at]
					w[at] = wordOf(7, number)
					beats := between(at, beatAt(c, 0), beatAt(c, 0)+c.Slots-1)
					seeStamps(t, "a word of the house", w, at < 3 || beats || state == doorDone || state == doorHeld && at >= deskAt(c, 0))
					w[at] = was
				}
			}
		}
	}
}

// The numbers of doors at their ends: where the door's is 0, no number is below
// it; and two words of which one is ahead of the door.
func TestDoorsAtTheirEnds(t *testing.T) {
	for _, c := range []impl.PlatCfg{{Slots: 1, Pages: 1, Lease: 1}, deskHouse, {Slots: 4, Pages: 6, Lease: 20}} {
		for state, want := range []bool{false, false, true, false} {
			w := impl.PlatFormat(c)
			w[2] = doorOf(state, 0, 1, 0)
			seeStamps(t, "no door was ever there", w, want)
			w[tagAt(c, 0)] = wordOf(0, 1)
			seeStamps(t, "a word ahead of it", w, false)
			w[2] = doorOf(state, 0, 1, mostHalf)
			seeStamps(t, "the greatest number", w, true)
			w[tagAt(c, 0)] = wordOf(0, mostHalf)
			seeStamps(t, "a word with the greatest number", w, want)
			w[deskAt(c, 0)] = wordOf(0, mostHalf)
			seeStamps(t, "and one of a desk", w, want)
			w[tagAt(c, 0)] = 0
			seeStamps(t, "one of a desk alone", w, want || state == doorHeld)
		}
	}
	// The slot of the door and its epoch are no matter.
	for slot := range mostSlot + 1 {
		for _, epoch := range []int{0, 1, 4095, 4096, 1 << 26} {
			for state, want := range []bool{false, true, true} {
				w := words{2: doorOf(state, slot, epoch, 20), 89: wordOf(1, 20)}.in(scene())
				seeStamps(t, "a desk, and any door", w, want)
			}
		}
	}
}

// Words that are not those of a house: none, too few, one too many, and others.
func TestNumbersOfNoHouse(t *testing.T) {
	c := deskHouse
	w := append(scene(), make([]uint64, 40)...)
	for n := range len(w) + 1 {
		seeStamps(t, "so many words", w[:n], n == sizeOf(c))
	}
	seeStamps(t, "no words", nil, false)
	for _, first := range wrongFirstWords(c) {
		seeStamps(t, "another first word", words{0: first}.in(scene()), false)
	}
	for lease := 1; lease <= mostLease; lease++ {
		seeStamps(t, "another lease", words{0: firstOf(impl.PlatCfg{Slots: 3, Pages: 2, Lease: lease})}.in(scene()), true)
	}
	for _, c := range everyHouse() {
		seeStamps(t, "a new house", impl.PlatFormat(c), true)
	}
}

// sightOf is a number of a guest that it may have seen, and the greatest that can
// be, in the scene; the guest is one of slot 0 that is in with epoch 2.
type sightOf struct {
	name string
	of   func(g *impl.Guest) *int
	most int
}

func sightsOf() []sightOf {
	return []sightOf{
		{"Epoch", func(g *impl.Guest) *int { return &g.Epoch }, 2},
		{"Next", func(g *impl.Guest) *int { return &g.Next }, 3},
		{"Seq", func(g *impl.Guest) *int { return &g.Seq }, 20},
		{"Time", func(g *impl.Guest) *int { return &g.Time }, 50},
	}
}

// Each number at its greatest and one above it, alone and beside the others, at
// each place, of who is up and of who is dead.
func TestSightsOfGuests(t *testing.T) {
	for pc := pcIdle; pc <= pcYield; pc++ {
		for _, up := range []bool{false, true} {
			g := with(guestAt(pc), func(g *impl.Guest) {
				g.Up, g.Slot, g.Op.Slot, g.Epoch, g.Next, g.Seq, g.Time = up, 0, 0, 2, 3, 20, 50
			})
			seeSight(t, "all at their greatest", sceneWorld(guestOf(1, 1), g), 1, true)
			for _, number := range sightsOf() {
				for _, n := range []int{0, 1, number.most - 1, number.most, number.most + 1, number.most + 2, 4095} {
					ok := n <= number.most
					alone := with(caller(pc, nil), func(g *impl.Guest) {
						g.Up, g.Busy = up, pc != pcIdle
						*number.of(g) = n
					})
					if modelGuestOk(deskHouse, alone) {
						seeSight(t, number.name+" alone", sceneWorld(guestOf(1, 1), alone), 1, ok)
					}
					beside := with(g, func(g *impl.Guest) { *number.of(g) = n })
					seeSight(t, number.name+" beside others", sceneWorld(beside, guestOf(1, 1)), 0, ok)
				}
			}
		}
	}
}

// What is seen goes by the guest's own slot: where nobody is in, and where
// somebody is in with another epoch, or was cut off.
func TestSightsOfSlots(t *testing.T) {
	sight := func(slot int, epoch int, next int) impl.World {
		return sceneWorld(guestOf(1, 1), impl.Guest{Up: true, Slot: slot, Epoch: epoch, Next: next})
	}
	for slot, has := range []int{2, 1, 4} {
		for n := range 7 {
			seeSight(t, "an epoch", sight(slot, n, 0), 1, n <= has)
			seeSight(t, "a next one", sight(slot, 0, n), 1, n <= has+1)
			seeSight(t, "both", sight(slot, n, n), 1, n <= has)
		}
	}
	for state := range 4 {
		for _, epoch := range []int{0, 1, 7, 4094, 4095, 4096, 1 << 29} {
			for _, stamp := range []int{0, 3, 1 << 20} {
				for _, n := range []int{0, 1, 2, 7, 8, 9, 4094, 4095} {
					w := sight(2, n, 0)
					w.Words[5] = regOf(state, epoch, stamp)
					seeSight(t, "an epoch in any register", w, 1, n <= epoch)
					w = sight(2, 0, n)
					w.Words[5] = regOf(state, epoch, stamp)
					seeSight(t, "a next one in any register", w, 1, n <= epoch+1)
				}
			}
		}
	}
}

// The number of the door and the time of the clock, at their ends; what else the
// door and the clock say is no matter.
func TestSightsOfTheDoorAndTheClock(t *testing.T) {
	for _, number := range []int{0, 1, 999999, 1000000, 1000001, 1000002, mostHalf} {
		for _, seq := range []int{0, 1, 2, 999999, 1000000, 1000001} {
			for state := range 4 {
				w := sceneWorld(impl.Guest{Seq: seq})
				w.Words[2] = doorOf(state, 5, 99, number)
				seeSight(t, "a number of the door", w, 0, seq <= number)
			}
		}
	}
	for _, clock := range []int{0, 1, mostVal - 1, mostVal, mostVal + 1, mostHalf} {
		for _, time := range []int{0, 1, 2, mostVal - 1, mostVal} {
			for _, stamp := range []int{0, 1, mostHalf} {
				w := sceneWorld(impl.Guest{Time: time})
				w.Words[1] = wordOf(clock, stamp)
				seeSight(t, "a time", w, 0, time <= clock)
			}
		}
	}
}

// No world, no such guest.
func TestSightsOfNobody(t *testing.T) {
	for why, w := range noWorlds() {
		for i := -2; i <= len(w.Guests)+1; i++ {
			seeSight(t, why, w, i, false)
		}
		seeWorldVow(t, why, w, false)
		seeHolder(t, why, w, -1)
	}
	for many := range mostGuests + 1 {
		w := sceneWorld(make([]impl.Guest, many)...)
		for _, i := range []int{math.MinInt, -1 << 32, -many - 1, -many, -2, -1, 0, 1, 2, 3, 4, 5, 6, 7, 1 << 32, math.MaxInt} {
			seeSight(t, "a guest", w, i, between(i, 0, many-1))
		}
	}
}

// A guest's sight goes by no other guest, and by no book and no number of words.
func TestSightsOfOneAlone(t *testing.T) {
	wrong := impl.Guest{Seq: 21}
	torn := words{5: wordOf(17, 90), tagAt(deskHouse, 1): wordOf(9, 99)}.in(scene())
	for i := range mostGuests {
		guests := make([]impl.Guest, mostGuests)
		guests[i] = wrong
		for k := range guests {
			seeSight(t, "one among others", impl.World{Words: scene(), Guests: guests}, k, k != i)
			seeSight(t, "in words without a book", impl.World{Words: torn, Guests: guests}, k, k != i)
		}
	}
}

// VowWorld: with no guests, with a single one that has seen what cannot be, first,
// last or between; without a true book; and with a number that has not been.
func TestVowsOfWorlds(t *testing.T) {
	for many := range mostGuests + 1 {
		good := make([]impl.Guest, many)
		for i := range good {
			good[i] = guestOf(0, 2)
		}
		seeWorldVow(t, "all have seen what is", sceneWorld(good...), true)
		for i := range good {
			for _, number := range sightsOf() {
				guests := append([]impl.Guest(nil), good...)
				*number.of(&guests[i]) = number.most
				seeWorldVow(t, number.name, sceneWorld(guests...), true)
				*number.of(&guests[i]) = number.most + 1
				seeWorldVow(t, number.name+" of one", sceneWorld(guests...), false)
			}
		}
		for _, area := range bearings() {
			for _, at := range []int{area.from, area.to} {
				// The value is as it was, so that the book is, too.
				w := sceneWorld(good...)
				w.Words[at] = wordOf(valOf(w.Words[at]), 20)
				seeWorldVow(t, "a number that has not been", w, false)
				w.Words[2] = doorOf(doorHeld, 0, 2, 20)
				seeWorldVow(t, "a number of who holds the door", w, area.holds)
				w.Words[2] = doorOf(doorFree, 0, 0, 21)
				seeWorldVow(t, "a number that has been", w, true)
			}
		}
	}
	for _, c := range everyHouse() {
		seeWorldVow(t, "an open house", impl.WorldOpen(c), true)
	}
	seeWorldVow(t, "no world", impl.World{}, false)
}

// A world with a book as it stands and without a true one, and the other way
// round; and each value of words that is another one.
func TestVowsOfWorldsWithoutABook(t *testing.T) {
	at := tagAt(deskHouse, 1)
	torn := words{at: wordOf(9, 3)}
	seeWorldVow(t, "no book", impl.World{Words: torn.in(scene())}, false)
	seeWorldVow(t, "no book, and guests", impl.World{Words: torn.in(scene()), Guests: []impl.Guest{guestOf(0, 2)}}, false)
	mends := words{2: doorOf(doorDone, 1, 1, 20), 68: wordOf(1, 20), 69: changeOf(at, 0, 20)}
	seeWorldVow(t, "what is done mends it", impl.World{Words: mends.in(torn.in(scene()))}, true)
	seeWorldVow(t, "there was nothing to mend", impl.World{Words: mends.in(scene())}, true)
	tears := words{2: doorOf(doorDone, 1, 1, 20), 68: wordOf(1, 20), 69: changeOf(at, 9, 20)}
	seeWorldVow(t, "what is done tears it", impl.World{Words: tears.in(scene())}, false)
	late := words{2: doorOf(doorHeld, 1, 1, 20), 68: wordOf(1, 20), 69: changeOf(at, 9, 20)}
	seeWorldVow(t, "it is not done yet", impl.World{Words: late.in(scene())}, true)
	for at := range deskAt(deskHouse, 0) {
		for _, val := range []int{0, 1, 2, 3, 5, 8, 17, mostHalf} {
			w := sceneWorld(guestOf(0, 2), guestOf(1, 1), guestOf(2, 4))
			w.Words[at] = wordOf(val, stampOf(w.Words[at]))
			seeVows(t, "another value", w)
		}
	}
}

// atDoor is a guest of slot 0 at a place, that is ok in the scene, and knows the
// number of the door.
func atDoor(pc int, how change) impl.Guest {
	g := with(guestAt(pc), func(g *impl.Guest) { g.Slot, g.Op.Slot, g.Epoch, g.Seq, g.Door = 0, 0, 2, 20, 1 })
	return with(g, how)
}

// A guest at each place, with the door in its own hand, and in others'.
func TestHoldersAtEachPlace(t *testing.T) {
	held := doorOf(doorHeld, 0, 2, 20)
	doors := map[string]uint64{
		"free":               doorOf(doorFree, 0, 0, 20),
		"free for it":        doorOf(doorFree, 0, 2, 20),
		"done":               doorOf(doorDone, 0, 2, 20),
		"of no state":        doorOf(3, 0, 2, 20),
		"another slot's":     doorOf(doorHeld, 1, 2, 20),
		"another epoch's":    doorOf(doorHeld, 0, 3, 20),
		"no epoch's":         doorOf(doorHeld, 0, 0, 20),
		"a number later":     doorOf(doorHeld, 0, 2, 21),
		"a number earlier":   doorOf(doorHeld, 0, 2, 19),
		"free behind it":     doorOf(doorFree, 0, 0, 21),
		"of one bit more":    held | 1<<31,
		"no door whatsoever": 0,
	}
	for pc := pcIdle; pc <= pcYield; pc++ {
		holds := between(pc, pcSee, pcTurn) || pc == pcYield
		want := map[bool]int{false: -1, true: 0}[holds]
		for _, up := range []bool{false, true} {
			g := atDoor(pc, func(g *impl.Guest) { g.Up = up })
			seeHolder(t, "its held door", sceneDoor(held, g), want)
			other := map[bool]int{false: -1, true: 2}[holds]
			seeHolder(t, "it is the last one", sceneDoor(held, impl.GuestNew(0), guestOf(0, 2), g), other)
			for why, door := range doors {
				seeHolder(t, "the door is "+why, sceneDoor(door, g), -1)
			}
		}
	}
}

// sceneDoor is the scene with another door.
func sceneDoor(door uint64, guests ...impl.Guest) impl.World {
	return impl.World{Words: words{2: door}.in(scene()), Guests: guests}
}

// A guest that is Own has the door that is its Door, wherever it stands and
// whatever that says; and no other one.
func TestHoldersThatHaveTurned(t *testing.T) {
	doors := []uint64{doorOf(doorDone, 0, 2, 20), doorOf(doorDone, 0, 2, 19), doorOf(doorDone, 1, 1, 20), doorOf(doorHeld, 1, 1, 20),
		doorOf(doorFree, 0, 0, 20), doorOf(doorFree, 0, 0, 21), doorOf(3, 7, 9, 20), 0, math.MaxUint64}
	for pc := pcBeat; pc <= pcYield; pc++ {
		for _, up := range []bool{false, true} {
			for _, its := range doors {
				own := atDoor(pc, func(g *impl.Guest) { g.Up, g.Own, g.Door = up, true, its })
				not := with(own, func(g *impl.Guest) { g.Own = false })
				for _, door := range doors {
					want := map[bool]int{false: -1, true: 1}[door == its]
					seeHolder(t, "its door", sceneDoor(door, guestOf(1, 1), own), want)
					seeHolder(t, "it has turned nothing", sceneDoor(door, guestOf(1, 1), not), -1)
				}
			}
		}
	}
	// A door that it holds and one that it has turned are the same to who asks.
	held := doorOf(doorHeld, 0, 2, 20)
	both := atDoor(pcTurn, func(g *impl.Guest) { g.Own, g.Door = true, doorOf(doorDone, 0, 2, 20) })
	seeHolder(t, "it holds it", sceneDoor(held, both), 0)
	seeHolder(t, "it has turned it", sceneDoor(both.Door, both), 0)
	seeHolder(t, "neither", sceneDoor(doorOf(doorFree, 0, 0, 21), both), -1)
}

// Who is not Busy has nothing; nor does anybody in no world.
func TestNobodyHoldsTheDoor(t *testing.T) {
	held := doorOf(doorHeld, 0, 2, 20)
	idle := atDoor(pcIdle, func(g *impl.Guest) { g.Own, g.Door = true, held })
	seeHolder(t, "idle", sceneDoor(held, idle), -1)
	seeHolder(t, "nobody", sceneDoor(held), -1)
	seeHolder(t, "dead and idle", sceneDoor(held, with(idle, func(g *impl.Guest) { g.Up = false })), -1)
	for many := range mostGuests + 1 {
		seeHolder(t, "all are idle", sceneDoor(held, make([]impl.Guest, many)...), -1)
	}
	holder := atDoor(pcSee, nil)
	seeHolder(t, "it holds it", sceneDoor(held, holder), 0)
	for why, w := range noWorlds() {
		w.Guests = append([]impl.Guest{holder}, w.Guests...)
		if len(w.Words) > doorAt {
			w.Words[doorAt] = held
		}
		seeHolder(t, why, w, -1)
	}
	seeHolder(t, "a world that is not ok", sceneDoor(held, holder, impl.GuestNew(3)), -1)
}

// Of several that have the door the first one is told: who holds it, and who has
// turned it, in all orders.
func TestSeveralHolders(t *testing.T) {
	held := doorOf(doorHeld, 0, 2, 20)
	for _, n := range []int{2, 3, mostGuests} {
		for which := range 1 << n {
			guests := make([]impl.Guest, n)
			first := -1
			for i := n - 1; i >= 0; i-- {
				guests[i] = atDoor(pcDoor, nil)
				if which>>i%2 == 0 {
					continue
				}
				first = i
				guests[i] = atDoor(pcSee+i%5, nil)
				if i%2 == 1 {
					guests[i] = atDoor(pcOpen, func(g *impl.Guest) { g.Own, g.Door = true, held })
				}
			}
			seeHolder(t, "several", sceneDoor(held, guests...), first)
		}
	}
}

// The ends of what a held door may say: an epoch and a number at their greatest.
func TestHoldersAtTheEnds(t *testing.T) {
	for slot := range mostSlots {
		for _, epoch := range []int{0, 1, 4094, 4095} {
			for _, seq := range []int{0, 1, 1000000, 1000001} {
				c := impl.PlatCfg{Slots: 4, Pages: 1, Lease: 1}
				w := impl.World{Words: impl.PlatFormat(c), Guests: []impl.Guest{{Slot: slot, Epoch: epoch, Seq: seq, Busy: true, Pc: pcTurn}}}
				w.Guests[0].Op.Slot = slot
				w.Words[2] = doorOf(doorHeld, slot, epoch, seq)
				seeHolder(t, "at the ends", w, 0)
				w.Words[2] = doorOf(doorHeld, slot, epoch+1, seq)
				seeHolder(t, "one epoch above", w, -1)
				w.Words[2] = doorOf(doorHeld, slot, epoch, seq+1)
				seeHolder(t, "one number above", w, -1)
			}
		}
	}
}

// All calls, in worlds that are thrown, and behind what happens there.
func TestVowsThrown(t *testing.T) {
	onOneProcessor(t)
	d := dice(100)
	met := map[string]int{}
	for range 1500 {
		w := d.anyWorld()
		for range 3 {
			seeVows(t, "thrown", w)
			_, has := modelHolder(w)
			met["stamps "+strconv.FormatBool(modelVowStamps(w.Words))]++
			met["holder "+strconv.FormatBool(has)]++
			met["world "+strconv.FormatBool(modelVowWorld(w))]++
			for i := range w.Guests {
				met["guest "+strconv.FormatBool(modelVowGuest(w, i))]++
			}
			w = impl.WorldDo(w, d.anyEvent(w))
		}
	}
	for _, what := range []string{"stamps", "holder", "world", "guest"} {
		for _, is := range []string{" true", " false"} {
			if met[what+is] < 20 {
				t.Errorf("%s: %v", what+is, met)
			}
		}
	}
}
