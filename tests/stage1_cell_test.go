package tests

import (
	"math"
	"slices"
	"testing"

	"loop.example/hostel/impl"
)

// The greatest number that each field holds, in plain figures: the tests must
// not follow the program's constants, if those go wrong.
const (
	mostHalf  = 4294967295
	mostState = 2
	mostSlot  = 7
	mostEpoch = 4095
	mostAddr  = 4095
	mostVal   = 1048575
)

// kindOfWord is a call that makes words, and how such a word is put together
// and read by the document's own sums.
type kindOfWord struct {
	name  string
	most  []int // of each argument, the stamp last
	times []int // by how much each argument but the stamp counts in the value
	make  func(n []int) uint64
	read  func(w uint64) []int
}

func kindsOfWords() []kindOfWord {
	return []kindOfWord{
		{
			"CellPack", []int{mostHalf, mostHalf}, []int{1},
			func(n []int) uint64 { return impl.CellPack(n[0], n[1]) },
			func(w uint64) []int { return []int{impl.CellVal(w), impl.CellStamp(w)} },
		},
		{
			"CellDoor", []int{mostState, mostSlot, mostEpoch, mostHalf}, []int{1, 4, 32},
			func(n []int) uint64 { return impl.CellDoor(n[0], n[1], n[2], n[3]) },
			func(w uint64) []int {
				a, b, c := impl.CellDoorOf(w)
				return []int{a, b, c, impl.CellStamp(w)}
			},
		},
		{
			"CellReg", []int{mostState, mostEpoch, mostHalf}, []int{1, 4},
			func(n []int) uint64 { return impl.CellReg(n[0], n[1], n[2]) },
			func(w uint64) []int {
				a, b := impl.CellRegOf(w)
				return []int{a, b, impl.CellStamp(w)}
			},
		},
		{
			"CellEntry", []int{mostAddr, mostVal, mostHalf}, []int{1048576, 1},
			func(n []int) uint64 { return impl.CellEntry(n[0], n[1], n[2]) },
			func(w uint64) []int {
				a, b := impl.CellEntryOf(w)
				return []int{a, b, impl.CellStamp(w)}
			},
		},
	}
}

// wordOf is the word of numbers that are within their fields.
func (k kindOfWord) wordOf(n []int) uint64 {
	last := len(n) - 1
	w := uint64(n[last]) * (mostHalf + 1)
	for i, m := range k.times {
		w += uint64(n[i]) * uint64(m)
	}
	return w
}

// eachRow goes through all rows with one number of each choice.
func eachRow(choices [][]int, see func(n []int)) {
	row := make([]int, len(choices))
	var fill func(at int)
	fill = func(at int) {
		if at == len(choices) {
			see(append([]int(nil), row...))
			return
		}
		for _, n := range choices[at] {
			row[at] = n
			fill(at + 1)
		}
	}
	fill(0)
}

// within: 0, 1, some ordinary numbers, the highest bit alone, and the greatest.
func within(most int) []int {
	if most == mostState {
		return []int{0, 1, 2}
	}
	return []int{0, 1, most / 3, most / 2, most/2 + 1, most - 1, most}
}

func TestLimits(t *testing.T) {
	got := []int{impl.CellMaxVal, impl.CellMaxAddr, impl.CellMaxEpoch, impl.CellMaxSlot, impl.CellMaxStamp}
	if !slices.Equal(got, []int{1048575, 4095, 4095, 7, 4294967295}) {
		t.Error(got)
	}
	got = []int{impl.CellFree, impl.CellHeld, impl.CellDone, impl.CellOut, impl.CellLive, impl.CellCut}
	if !slices.Equal(got, []int{0, 1, 2, 0, 1, 2}) {
		t.Error(got)
	}
}

// P1: what is packed is read again.
func TestPackedIsRead(t *testing.T) {
	for _, k := range kindsOfWords() {
		var choices [][]int
		for _, m := range k.most {
			choices = append(choices, within(m))
		}
		eachRow(choices, func(n []int) {
			w := k.make(n)
			if w != k.wordOf(n) {
				t.Errorf("%s%v is %#x, not %#x", k.name, n, w, k.wordOf(n))
			}
			if got := k.read(w); !slices.Equal(got, n) {
				t.Errorf("%s%v is read as %v", k.name, n, got)
			}
		})
	}
}

// P1: no word has two readings: no two rows of numbers make the same word.
func TestNoTwoMakeOneWord(t *testing.T) {
	for _, k := range kindsOfWords() {
		seen := map[uint64][]int{}
		var choices [][]int
		for _, m := range k.most {
			choices = append(choices, within(m))
		}
		eachRow(choices, func(n []int) {
			w := k.make(n)
			if was, ok := seen[w]; ok {
				t.Errorf("%s%v and %s%v are both %#x", k.name, was, k.name, n, w)
			}
			seen[w] = n
		})
	}
}

// Every number of a field that is small enough to go through, beside fields
// that are all 0 or all at their greatest.
func TestWholeFields(t *testing.T) {
	for _, k := range kindsOfWords() {
		for at, m := range k.most {
			if m > mostVal {
				continue
			}
			low := make([]int, len(k.most))
			high := append([]int(nil), k.most...)
			for n := 0; n <= m; n++ {
				low[at], high[at] = n, n
				if got := k.read(k.make(low)); !slices.Equal(got, low) {
					t.Fatalf("%s%v is read as %v", k.name, low, got)
				}
				if got := k.read(k.make(high)); !slices.Equal(got, high) {
					t.Fatalf("%s%v is read as %v", k.name, high, got)
				}
			}
		}
	}
}

// clamped is the numbers as they count.
func (k kindOfWord) clamped(n []int) []int {
	out := append([]int(nil), n...)
	for i, m := range k.most {
		if out[i] < 0 {
			out[i] = 0
		} else if out[i] > m {
			out[i] = m
		}
	}
	return out
}

// A number that does not fit in its field counts as the nearest one that does,
// and spills into no other field, also if several do not fit.
func TestNumbersThatDoNotFit(t *testing.T) {
	for _, k := range kindsOfWords() {
		var choices [][]int
		for _, m := range k.most {
			choices = append(choices, []int{math.MinInt, -m - 1, -1, 0, m, m + 1, 2*m + 1, 1 << 32, 1 << 40, math.MaxInt})
		}
		eachRow(choices, func(n []int) {
			want := k.clamped(n)
			w := k.make(n)
			if w != k.wordOf(want) {
				t.Errorf("%s%v is %#x, not that of %v", k.name, n, w, want)
			}
			if got := k.read(w); !slices.Equal(got, want) {
				t.Errorf("%s%v is read as %v, not %v", k.name, n, got, want)
			}
		})
	}
}

// anyWords: words that calls make, and words that none does.
func anyWords() []uint64 {
	out := []uint64{0, 3, 7, 31, 32, 131072, 131075, 16380, 16384, 1048575, 1048576, mostHalf, mostHalf + 1,
		3 << 30, 1 << 31, 1<<63 + 1, 0xdeadbeefcafef00d, 0x0123456789abcdef, math.MaxUint64 - 1, math.MaxUint64}
	for b := range 64 {
		out = append(out, 1<<b, 1<<b-1, math.MaxUint64-1<<b)
	}
	return out
}

// What is read of any word is what the document's divisions say, whatever made it.
func TestEveryWordIsRead(t *testing.T) {
	for _, w := range anyWords() {
		val, stamp := int(w%(mostHalf+1)), int(w/(mostHalf+1))
		if impl.CellVal(w) != val || impl.CellStamp(w) != stamp {
			t.Errorf("%#x: %d %d", w, impl.CellVal(w), impl.CellStamp(w))
		}
		if impl.CellPack(val, stamp) != w {
			t.Errorf("%#x: packed again it is %#x", w, impl.CellPack(val, stamp))
		}
		if a, b, c := impl.CellDoorOf(w); a != val%4 || b != val/4%8 || c != val/32 {
			t.Errorf("%#x: door %d %d %d", w, a, b, c)
		}
		if a, b := impl.CellRegOf(w); a != val%4 || b != val/4 {
			t.Errorf("%#x: register %d %d", w, a, b)
		}
		if a, b := impl.CellEntryOf(w); a != val/1048576 || b != val%1048576 {
			t.Errorf("%#x: change %d %d", w, a, b)
		}
	}
}

func TestWordsThatNoCallMakes(t *testing.T) {
	all := uint64(math.MaxUint64)
	if a, b, c := impl.CellDoorOf(all); a != 3 || b != 7 || c != 134217727 {
		t.Error(a, b, c)
	}
	if a, b := impl.CellRegOf(all); a != 3 || b != 1073741823 {
		t.Error(a, b)
	}
	if a, b := impl.CellEntryOf(all); a != 4095 || b != 1048575 {
		t.Error(a, b)
	}
	if a, b, c := impl.CellDoorOf(impl.CellPack(3+4*5+32*4096, 1)); a != 3 || b != 5 || c != 4096 {
		t.Error(a, b, c)
	}
	if a, b := impl.CellRegOf(impl.CellPack(3+4*4096, 1)); a != 3 || b != 4096 {
		t.Error(a, b)
	}
}

// P2: the greater stamp is the greater word, and with one stamp the greater value.
func TestOrder(t *testing.T) {
	for _, a := range within(mostHalf) {
		for _, b := range within(mostHalf) {
			for _, x := range within(mostHalf) {
				for _, y := range within(mostHalf) {
					want := a < b || a == b && x < y
					if got := impl.CellPack(x, a) < impl.CellPack(y, b); got != want {
						t.Errorf("value %d stamp %d below value %d stamp %d: %v", x, a, y, b, got)
					}
				}
			}
		}
	}
}

// P2, for the words of all kinds against each other: a greater stamp outdoes
// whatever stands in their values.
func TestOrderAcrossKinds(t *testing.T) {
	var words []uint64
	for _, stamp := range within(mostHalf) {
		for _, k := range kindsOfWords() {
			least := make([]int, len(k.most))
			most := append([]int(nil), k.most...)
			least[len(least)-1], most[len(most)-1] = stamp, stamp
			words = append(words, k.make(least), k.make(most))
		}
	}
	for _, a := range words {
		for _, b := range words {
			s, r := impl.CellStamp(a), impl.CellStamp(b)
			want := s < r || s == r && impl.CellVal(a) < impl.CellVal(b)
			if (a < b) != want {
				t.Errorf("%#x below %#x: %v", a, b, a < b)
			}
		}
	}
}
