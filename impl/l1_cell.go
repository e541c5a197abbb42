package impl

// What the door says.
const (
	CellFree = 0
	CellHeld = 1
	CellDone = 2
)

// What the register says of a slot.
const (
	CellOut  = 0
	CellLive = 1
	CellCut  = 2
)

// Bounds of fields.
const (
	CellMaxVal   = 1048575
	CellMaxAddr  = 4095
	CellMaxEpoch = 4095
	CellMaxSlot  = 7
	CellMaxStamp = 4294967295
)

// A state has room for 3, but no call makes more than the last state of a door
// or of the register.
const cellMaxState = 2

// The bit at which each half of a word begins. The stamp is the upper half, so
// that words compare as numbers by their stamps first.
const (
	cellValAt = 32 * iota
	cellStampAt
	cellValMask = 1<<cellStampAt - 1
)

// The bit at which each field of a door's value begins; a blank line is one
// more bit of the field above it.
const (
	cellDoorStateAt = iota
	_
	cellDoorSlotAt
	_
	_
	cellDoorEpochAt
	cellDoorStateMask = 1<<(cellDoorSlotAt-cellDoorStateAt) - 1
	cellDoorSlotMask  = 1<<(cellDoorEpochAt-cellDoorSlotAt) - 1
)

// The bit at which each field of a value in the register begins.
const (
	cellRegStateAt = 2 * iota
	cellRegEpochAt
	cellRegStateMask = 1<<(cellRegEpochAt-cellRegStateAt) - 1
)

// The bit at which each field of a change's value begins.
const (
	cellEntryValAt = 20 * iota
	cellEntryAddrAt
	cellEntryValMask = 1<<(cellEntryAddrAt-cellEntryValAt) - 1
)

// cellWord is one word of a house.
type cellWord uint64

// cellDoorWord is a word that is read as the door.
type cellDoorWord struct{ cellWord }

// cellRegWord is a word that is read as a slot's in the register.
type cellRegWord struct{ cellWord }

// cellEntryWord is a word that is read as a change.
type cellEntryWord struct{ cellWord }

// cellFit keeps a number from spilling into the field beside its own.
func cellFit(n int, most int) int { return min(max(n, 0), most) }

// cellMake is the word with a value and a stamp.
func cellMake(val int, stamp int) cellWord {
	low := cellWord(cellFit(val, CellMaxStamp))
	high := cellWord(cellFit(stamp, CellMaxStamp))
	return high<<cellStampAt | low<<cellValAt
}

func (w cellWord) value() int { return int(w >> cellValAt & cellValMask) }

func (w cellWord) stamp() int { return int(w >> cellStampAt) }

func (d cellDoorWord) state() int { return d.value() >> cellDoorStateAt & cellDoorStateMask }

func (d cellDoorWord) slot() int { return d.value() >> cellDoorSlotAt & cellDoorSlotMask }

// epoch is all that is above the slot: a word that no call makes may have more
// there than CellMaxEpoch.
func (d cellDoorWord) epoch() int { return d.value() >> cellDoorEpochAt }

func (r cellRegWord) state() int { return r.value() >> cellRegStateAt & cellRegStateMask }

// epoch is all that is above the state, as it is in a door.
func (r cellRegWord) epoch() int { return r.value() >> cellRegEpochAt }

func (e cellEntryWord) addr() int { return e.value() >> cellEntryAddrAt }

func (e cellEntryWord) val() int { return e.value() >> cellEntryValAt & cellEntryValMask }

// CellPack is a word with a value and a stamp.
func CellPack(val int, stamp int) uint64 { return uint64(cellMake(val, stamp)) }

// CellVal is the value of a word.
func CellVal(w uint64) int { return cellWord(w).value() }

// CellStamp is the stamp of a word.
func CellStamp(w uint64) int { return cellWord(w).stamp() }

// CellDoor is the word of the door.
func CellDoor(state int, slot int, epoch int, stamp int) uint64 {
	val := cellFit(state, cellMaxState)<<cellDoorStateAt |
		cellFit(slot, CellMaxSlot)<<cellDoorSlotAt |
		cellFit(epoch, CellMaxEpoch)<<cellDoorEpochAt
	return uint64(cellMake(val, stamp))
}

// CellDoorOf is what the word of the door says.
func CellDoorOf(w uint64) (int, int, int) {
	d := cellDoorWord{cellWord(w)}
	return d.state(), d.slot(), d.epoch()
}

// CellReg is the word of a slot in the register.
func CellReg(state int, epoch int, stamp int) uint64 {
	val := cellFit(state, cellMaxState)<<cellRegStateAt |
		cellFit(epoch, CellMaxEpoch)<<cellRegEpochAt
	return uint64(cellMake(val, stamp))
}

// CellRegOf is what the word of a slot says.
func CellRegOf(w uint64) (int, int) {
	r := cellRegWord{cellWord(w)}
	return r.state(), r.epoch()
}

// CellEntry is the word of a change.
func CellEntry(addr int, val int, stamp int) uint64 {
	low := cellFit(addr, CellMaxAddr)<<cellEntryAddrAt |
		cellFit(val, CellMaxVal)<<cellEntryValAt
	return uint64(cellMake(low, stamp))
}

// CellEntryOf is the address and the value of a change.
func CellEntryOf(w uint64) (int, int) {
	e := cellEntryWord{cellWord(w)}
	return e.addr(), e.val()
}
