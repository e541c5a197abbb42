package tests

import (
	"math"
	"strconv"
	"testing"

	"loop.example/hostel/impl"
)

// tenancy is what the words of a house say of somebody at a slot: its word in the
// register, and its beat.
type tenancy struct {
	state int
	epoch int
	stamp int
	beat  int
}

// tenants are the words of a house in which nothing is but what is said of its
// slots, and the clock.
func tenants(c impl.PlatCfg, clock int, at map[int]tenancy) []uint64 {
	w := impl.PlatFormat(c)
	w[clockAt] = wordOf(clock, 0)
	for slot, is := range at {
		w[regAt(c, slot)] = regOf(is.state, is.epoch, 0)
		w[beatAt(c, slot)] = wordOf(is.beat, is.stamp)
	}
	return w
}

// tenanted is a tenancy at one slot, and at each other one somebody of whom each
// call says something else.
func tenanted(c impl.PlatCfg, clock int, slot int, is tenancy) []uint64 {
	at := map[int]tenancy{}
	for other := range c.Slots {
		at[other] = tenancy{state: live, epoch: 3, stamp: 3, beat: clock}
		if is.state == live && is.stamp >= is.epoch {
			at[other] = tenancy{state: live, epoch: 3, stamp: 2, beat: clock}
		}
	}
	at[slot] = is
	return tenants(c, clock, at)
}

// gapsOf are how much the clock is ahead of a beat of the epoch itself, how many
// ticks are left then, and whether it is over.
func gapsOf(lease int) []struct {
	gap, left int
	over      bool
} {
	return []struct {
		gap, left int
		over      bool
	}{
		{lease - 1, 1, false},
		{lease, 0, false},
		{lease + 1, 0, true},
		{lease + 2, 0, true},
		{0, lease, false},
		{1, lease - 1, false},
		{-1, lease + 1, false},
		{-lease, 2 * lease, false},
		{-1000, lease + 1000, false},
		{40000, 0, true},
		{mostVal, 0, true},
	}
}

// Somebody is in, with a beat of its own epoch, of the one below, and of the one
// above: in houses of all slots and many leases, around the end of the lease, and
// ahead of the clock.
func TestLeasesAroundTheirEnds(t *testing.T) {
	for slots := 1; slots <= mostSlots; slots++ {
		for _, lease := range []int{1, 2, 3, 7, 19, 20} {
			c := impl.PlatCfg{Slots: slots, Pages: 1 + lease%mostPages, Lease: lease}
			for slot := range slots {
				for _, epoch := range []int{1, 2, 4095, 4096, 1<<30 - 1} {
					for _, g := range gapsOf(lease) {
						for _, clock := range []int{max(g.gap, 0), max(g.gap, 50), mostVal + 3} {
							beats := func(stamp int) []uint64 {
								return tenanted(c, clock, slot, tenancy{state: live, epoch: epoch, stamp: stamp, beat: clock - g.gap})
							}
							seeTerm(t, "its epoch", beats(epoch), slot, g.left, g.over)
							seeTerm(t, "one below it", beats(epoch-1), slot, 0, true)
							seeTerm(t, "one above it", beats(epoch+1), slot, lease, false)
						}
					}
				}
			}
		}
	}
}

// A slot in each state of the register: only of who is in, and was not cut off,
// there is a lease.
func TestLeasesInEachState(t *testing.T) {
	c := impl.PlatCfg{Slots: 4, Pages: 1, Lease: 5}
	for slot := range c.Slots {
		for state := range 4 {
			for stamp := 6; stamp <= 8; stamp++ {
				for _, g := range gapsOf(c.Lease) {
					w := tenanted(c, mostVal, slot, tenancy{state: state, epoch: 7, stamp: stamp, beat: mostVal - g.gap})
					left, over := g.left, g.over
					switch {
					case state != live:
						left, over = 0, false
					case stamp == 6:
						left, over = 0, true
					case stamp == 8:
						left, over = 5, false
					}
					seeTerm(t, "state "+strconv.Itoa(state), w, slot, left, over)
				}
			}
		}
	}
}

// Epochs and stamps that are far from each other, and at their ends; an epoch of 0
// has nothing below it.
func TestLeasesOfAnyEpoch(t *testing.T) {
	for _, epoch := range []int{0, 1, 2, 7, 4094, 4095, 4096, 1<<30 - 1} {
		for _, stamp := range []int{0, 1, 2, 6, 7, 8, 4095, 4096, 1<<30 - 2, 1<<30 - 1, 1 << 30, mostHalf} {
			for slot := range deskHouse.Slots {
				w := tenanted(deskHouse, 50, slot, tenancy{state: live, epoch: epoch, stamp: stamp, beat: 47})
				left := 1
				if stamp != epoch {
					left = map[bool]int{true: 4, false: 0}[stamp > epoch]
				}
				seeTerm(t, "any epoch", w, slot, left, stamp < epoch)
			}
		}
	}
}

// A beat that is far ahead of the clock: no more is told to be left than that.
func TestTheMostThatIsLeft(t *testing.T) {
	for _, lease := range []int{1, 4, 20} {
		c := impl.PlatCfg{Slots: 2, Pages: 2, Lease: lease}
		for _, clock := range []int{0, 1, 50, mostVal, mostVal + 1, 1 << 31} {
			for _, ahead := range []int{mostLeft - lease - 1, mostLeft - lease, mostLeft - lease + 1, mostLeft - 1, mostLeft, mostLeft + 1, 1 << 30} {
				for slot := range 2 {
					w := tenanted(c, clock, slot, tenancy{state: live, epoch: 7, stamp: 7, beat: clock + ahead})
					seeTerm(t, "far ahead", w, slot, min(lease+ahead, 2000000), false)
				}
			}
		}
		w := tenanted(c, 0, 1, tenancy{state: live, epoch: 7, stamp: 7, beat: mostHalf})
		seeTerm(t, "as far as can be", w, 1, 2000000, false)
		// Where the beat is of another epoch, it is no matter how far it is ahead.
		w = tenanted(c, 0, 1, tenancy{state: live, epoch: 7, stamp: 6, beat: mostHalf})
		seeTerm(t, "one below", w, 1, 0, true)
		w = tenanted(c, 0, 1, tenancy{state: live, epoch: 7, stamp: 8, beat: mostHalf})
		seeTerm(t, "one above", w, 1, lease, false)
		w = tenanted(c, mostHalf, 1, tenancy{state: live, epoch: 7, stamp: 7, beat: 0})
		seeTerm(t, "as far behind as can be", w, 1, 0, true)
		w = tenanted(c, mostHalf, 1, tenancy{state: live, epoch: 7, stamp: 8, beat: 0})
		seeTerm(t, "as far behind, and one above", w, 1, lease, false)
	}
}

// The scene, in figures; and with each other word of it another one: a slot's lease
// goes by its own two words, the clock's value and the house alone.
func TestLeasesOfTheScene(t *testing.T) {
	see := func(why string, w []uint64, but int) {
		t.Helper()
		for slot, left := range []int{2, 1, 0} {
			if slot != but {
				seeTerm(t, why, w, slot, left, false)
			}
		}
	}
	see("as it is", scene(), -1)
	seeDeadSlots(t, "as it is", scene())
	for at := 1; at < sizeOf(deskHouse); at++ {
		but := -1
		if between(at, 3, 8) {
			but = at % 3
		}
		for _, word := range []uint64{0, 1, 5, 9, wordOf(50, 2), wordOf(0, 1<<20), math.MaxUint64} {
			if at == clockAt {
				word = wordOf(50, stampOf(word))
			}
			see("another word at "+strconv.Itoa(at), words{at: word}.in(scene()), but)
		}
	}
	for stamp := range 30 {
		w := words{3: regOf(live, 2, stamp), 4: regOf(live, 1, 99-stamp), 5: regOf(out, 4, mostHalf)}.in(scene())
		see("other numbers in the register", w, -1)
	}
	for clock := range 60 {
		w := words{1: wordOf(clock, 7)}.in(scene())
		seeTerm(t, "another clock", w, 0, max(52-clock, 0), clock > 52)
		seeTerm(t, "another clock", w, 1, max(51-clock, 0), clock > 51)
		seeTerm(t, "another clock", w, 2, 0, false)
	}
}

// Words that are not those of a house, and slots that are none: nothing is left,
// and nothing is over.
func TestNoLeases(t *testing.T) {
	none := words{3: regOf(live, 2, 0), 4: regOf(live, 2, 0), 5: regOf(cut, 2, 0), 6: wordOf(48, 2), 7: wordOf(48, 1), 8: 0}
	all := append(none.in(scene()), make([]uint64, 40)...)
	for n := range len(all) + 1 {
		if n == sizeOf(deskHouse) {
			seeTerm(t, "a house", all[:n], 0, 2, false)
			seeTerm(t, "a house", all[:n], 1, 0, true)
			seeDeadSlots(t, "a house", all[:n], 1, 2)
			continue
		}
		for slot := -1; slot <= 3; slot++ {
			seeTerm(t, "so many words", all[:n], slot, 0, false)
		}
		seeDeadSlots(t, "so many words", all[:n])
	}
	for _, first := range append(wrongFirstWords(deskHouse), math.MaxUint64) {
		w := words{0: first}.in(all[:sizeOf(deskHouse)])
		for slot := -1; slot <= 3; slot++ {
			seeTerm(t, "another first word", w, slot, 0, false)
		}
		seeDeadSlots(t, "another first word", w)
	}
	seeTerm(t, "no words", nil, 0, 0, false)
	seeDeadSlots(t, "no words", nil)
}

func TestLeasesOfNoSlot(t *testing.T) {
	for slots := 1; slots <= mostSlots; slots++ {
		c := impl.PlatCfg{Slots: slots, Pages: 2, Lease: 3}
		for _, is := range []tenancy{{live, 2, 2, 50}, {live, 2, 2, 0}, {live, 2, 1, 50}, {live, 2, 3, 50}} {
			at := map[int]tenancy{}
			for slot := range slots {
				at[slot] = is
			}
			w := tenants(c, 50, at)
			// What lies where another slot would have its words looks like one, too.
			for at := headAt(c, 0); at < sizeOf(c); at++ {
				w[at] = wordOf(live+4*2, 1)
			}
			for _, slot := range append(numbersThatAreNone(slots), slots+1, slots+2, mostSlot, -slots-1) {
				seeTerm(t, "no slot", w, slot, 0, false)
			}
			seeTerm(t, "the last one", w, slots-1, modelLeft(w, slots-1), modelOver(w, slots-1))
		}
	}
}

// Nobody is in in a new house.
func TestLeasesOfNewHouses(t *testing.T) {
	for _, c := range everyHouse() {
		w := impl.PlatFormat(c)
		for slot := -1; slot <= mostSlots; slot++ {
			seeTerm(t, "a new house", w, slot, 0, false)
		}
		seeDeadSlots(t, "a new house", w)
	}
}

// tenanciesOf are all that may be with a slot in a house with a lease of 4 and a
// clock of 50, and whether it is dead.
func tenanciesOf() []struct {
	is   tenancy
	dead bool
} {
	return []struct {
		is   tenancy
		dead bool
	}{
		{tenancy{out, 0, 0, 0}, false},
		{tenancy{out, 2, 1, 0}, false},
		{tenancy{live, 2, 2, 46}, false},
		{tenancy{live, 2, 2, 45}, true},
		{tenancy{live, 2, 2, 60}, false},
		{tenancy{live, 2, 1, 50}, true},
		{tenancy{live, 2, 3, 0}, false},
		{tenancy{cut, 2, 2, 50}, true},
		{tenancy{cut, 2, 3, 60}, true},
		{tenancy{3, 2, 1, 0}, false},
	}
}

// TermDead of all that may be with each slot, in houses of all slots: none, all of
// them, the first and the last alone, and whatever else.
func TestDeadSlots(t *testing.T) {
	kinds := tenanciesOf()
	met := map[string]int{}
	all := 1
	for slots := 1; slots <= mostSlots; slots++ {
		c := impl.PlatCfg{Slots: slots, Pages: 1 + slots, Lease: 4}
		all *= len(kinds)
		for n := range all {
			var dead []int
			at := map[int]tenancy{}
			rest := n
			for slot := range slots {
				kind := kinds[rest%len(kinds)]
				at[slot] = kind.is
				if kind.dead {
					dead = append(dead, slot)
				}
				rest /= len(kinds)
			}
			seeDeadSlots(t, "slots", tenants(c, 50, at), dead...)
			met[strconv.Itoa(len(dead))+" of "+strconv.Itoa(slots)]++
		}
	}
	if len(met) != 2+3+4+5 {
		t.Errorf("%v", met)
	}
}

// However far their ends are from each other, those that are over are told by
// their slots.
func TestDeadSlotsAscend(t *testing.T) {
	c := impl.PlatCfg{Slots: 4, Pages: 1, Lease: 4}
	beats := []int{0, 10, 44, 45, 45}
	for n := range 5 * 5 * 5 * 5 {
		at := map[int]tenancy{}
		rest := n
		for slot := range 4 {
			at[slot] = tenancy{state: live, epoch: 1 + slot, stamp: 1 + slot, beat: beats[rest%5]}
			rest /= 5
		}
		seeDeadSlots(t, "all of them", tenants(c, 50, at), 0, 1, 2, 3)
		at[n%4] = tenancy{state: live, epoch: 9, stamp: 9, beat: 46}
		seeDeadSlots(t, "all but one", tenants(c, 50, at), [][]int{{1, 2, 3}, {0, 2, 3}, {0, 1, 3}, {0, 1, 2}}[n%4]...)
		at[n%4] = tenancy{state: cut, epoch: 9, stamp: 9, beat: 46}
		seeDeadSlots(t, "one was cut off", tenants(c, 50, at), 0, 1, 2, 3)
	}
}

// A slot that is out, live and cut, and in no state, with the guest's epoch and
// with another one; of a guest that is not in nothing is said.
func TestFencedGuests(t *testing.T) {
	for slot := range 3 {
		for state := range 4 {
			for _, epoch := range []int{0, 1, 2, 3, 4094, 4095, 4096, 1 << 29} {
				for _, its := range []int{0, 1, 2, 3, 4094, 4095} {
					want := its != 0 && (state == out || epoch != its)
					for _, stamp := range []int{0, 3, mostHalf} {
						w := sceneWorld(guestOf(0, 0), impl.Guest{Up: stamp > 0, Slot: slot, Epoch: its})
						w.Words[3+slot] = regOf(state, epoch, stamp)
						seeFenced(t, "state "+strconv.Itoa(state), w, 1, want)
						seeFenced(t, "it is not in", w, 0, false)
					}
				}
			}
		}
	}
}

// The scene in figures, at each place, of who is up and of who is dead: slot 0 is
// in with 2, slot 1 with 1, and slot 2 is free behind 4.
func TestFencedAtEachPlace(t *testing.T) {
	for pc := pcIdle; pc <= pcYield; pc++ {
		for _, up := range []bool{false, true} {
			for slot, has := range []int{2, 1, 4} {
				for its := range 7 {
					g := with(guestAt(pc), func(g *impl.Guest) { g.Up, g.Slot, g.Op.Slot, g.Epoch = up, slot, slot, its })
					want := its != 0 && (slot == 2 || its != has)
					seeFenced(t, "first", sceneWorld(g, guestOf(1, 1)), 0, want)
					seeFenced(t, "last", sceneWorld(guestOf(0, 9), guestOf(1, 1), g), 2, want)
				}
			}
		}
	}
	// What is left of its lease is no matter.
	for _, beat := range []uint64{0, wordOf(48, 1), wordOf(0, 2), wordOf(48, 2), wordOf(90, 2), wordOf(48, 3), math.MaxUint64} {
		w := sceneWorld(guestOf(0, 2), guestOf(0, 1))
		w.Words[6] = beat
		seeFenced(t, "any beat", w, 0, false)
		seeFenced(t, "any beat", w, 1, true)
	}
}

// No world, and no such guest.
func TestNobodyIsFenced(t *testing.T) {
	for why, w := range noWorlds() {
		w = copyWorld(w)
		if len(w.Guests) > 0 {
			w.Guests[0].Epoch = 7
		}
		for i := -2; i <= len(w.Guests)+1; i++ {
			seeFenced(t, why, w, i, false)
		}
	}
	for many := range mostGuests + 1 {
		guests := make([]impl.Guest, many)
		for i := range guests {
			guests[i].Epoch = 3
		}
		for i := range many {
			seeFenced(t, "all of them", sceneWorld(guests...), i, true)
		}
		for _, i := range append(numbersThatAreNone(many), many+1) {
			seeFenced(t, "no such guest", sceneWorld(guests...), i, false)
		}
		for i := range many {
			guests[i].Epoch = 2
			for k := range many {
				seeFenced(t, "all but one", sceneWorld(guests...), k, k != i)
			}
			guests[i].Epoch = 3
		}
	}
	// A true book is not asked for, nor what the door says.
	torn := words{2: doorOf(doorDone, 1, 1, 20), tagAt(deskHouse, 1): wordOf(9, 99)}.in(scene())
	seeFenced(t, "no book", impl.World{Words: torn, Guests: []impl.Guest{guestOf(0, 3)}}, 0, true)
	seeFenced(t, "no book", impl.World{Words: torn, Guests: []impl.Guest{guestOf(0, 2)}}, 0, false)
}

// What is done, and not yet carried out, does not count: the words are asked as
// they stand.
func TestTermsGoByTheWordsAsTheyStand(t *testing.T) {
	leaving := words{2: doorOf(doorDone, 1, 1, 20), 68: wordOf(1, 20), 69: changeOf(3, out+4*2, 20)}.in(scene())
	w := impl.World{Words: leaving, Guests: []impl.Guest{guestOf(0, 2)}}
	seeTerm(t, "not carried out", leaving, 0, 2, false)
	seeFenced(t, "not carried out", w, 0, false)
	w.Words = impl.CensDone(leaving)
	seeTerm(t, "carried out", w.Words, 0, 0, false)
	seeFenced(t, "carried out", w, 0, true)
	late := words{2: doorOf(doorDone, 1, 1, 20), 6: wordOf(40, 2), 68: wordOf(1, 20), 69: changeOf(3, cut+4*2, 20)}.in(scene())
	seeTerm(t, "not carried out", late, 0, 0, true)
	seeDeadSlots(t, "not carried out", late, 0)
	seeTerm(t, "carried out", impl.CensDone(late), 0, 0, false)
	seeDeadSlots(t, "carried out", impl.CensDone(late), 0)
}

// Who reaps cuts off just whose lease is over, and no slot else is given free.
func TestReapersGoByTheLease(t *testing.T) {
	for lease := 1; lease <= mostLease; lease++ {
		c := impl.PlatCfg{Slots: 2, Pages: 1, Lease: lease}
		for _, g := range gapsOf(lease) {
			for stamp := 1; stamp <= 3; stamp++ {
				w := impl.World{
					Words:  tenants(c, 50000, map[int]tenancy{0: {live, 2, stamp, 50000 - min(g.gap, 50000)}, 1: {live, 5, 5, 50000}}),
					Guests: []impl.Guest{guestOf(1, 5)},
				}
				_, over := termOf(t, w.Words, 0)
				w = impl.WorldPlay(w, []impl.WorldEvent{asksOf(0, reaps, 0, 0), stepsOf(0, mostSteps)})
				want := map[bool]int{false: codeLives, true: codeDone}[over]
				if got := w.Guests[0].Code; got != want || over != (stamp < 2 || stamp == 2 && g.over) {
					t.Fatalf("a lease of %d, %+v, stamp %d: over %v, and told %d", lease, g, stamp, over, got)
				}
			}
		}
	}
}

// All calls, in worlds that are thrown, and behind what happens there.
func TestTermsThrown(t *testing.T) {
	onOneProcessor(t)
	d := dice(110)
	met := map[string]int{}
	for range 1500 {
		w := d.anyWorld()
		for range 3 {
			seeTerms(t, "thrown", w)
			c, _ := modelHouse(w.Words)
			for slot := range c.Slots {
				met["over "+strconv.FormatBool(modelOver(w.Words, slot))]++
				met["left "+strconv.FormatBool(modelLeft(w.Words, slot) > 0)]++
			}
			for i := range w.Guests {
				met["fenced "+strconv.FormatBool(modelFenced(w, i))]++
			}
			met["dead "+strconv.FormatBool(len(modelDead(w.Words)) > 0)]++
			w = impl.WorldDo(w, d.anyEvent(w))
		}
	}
	for _, what := range []string{"over", "left", "fenced", "dead"} {
		for _, is := range []string{" true", " false"} {
			if met[what+is] < 20 {
				t.Errorf("%s: %v", what+is, met)
			}
		}
	}
}
