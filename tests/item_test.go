package tests

import (
	"math"
	"slices"
	"strings"
	"testing"

	"loop.example/harbinger/impl"
)

// aloneKinds are those that are executed only at the head.
var aloneKinds = []int{impl.CodSwap, impl.CodWait, impl.CodSys, impl.CodBack, impl.CodGet, impl.CodSet}

// barrenWords encode no instruction: bits behind the fields, and control registers that there are not.
var barrenWords = []int{0x9001, 0xa007, 0xb001, 0xbfff, 0xc004, 0xd800, 0xe140, 0xf1c0, 0xffff}

// fetchedWord is an item with a word from the address 20.
func fetchedWord(w int) impl.FchItem {
	return impl.FchItem{Pc: 20, Word: w, At: 36, Guess: 21}
}

// lostItem is one that could not be fetched.
func lostItem() impl.FchItem {
	return impl.FchItem{Pc: 300, Word: -1, At: -1, Why: impl.WhyTake, Guess: 301}
}

// emptyEntry has no instruction.
func emptyEntry(f impl.FchItem, why int) impl.RobItem {
	return impl.RobItem{Took: f, No: 5, Why: why, A: -1, B: -1, New: -1, Old: -1, Addr: -1, From: -1}
}

func lostEntry() impl.RobItem {
	return emptyEntry(lostItem(), impl.WhyTake)
}

func barrenEntry(w int) impl.RobItem {
	return emptyEntry(fetchedWord(w), impl.WhyCode)
}

// waitingEntry has a valid instruction that is not executed yet.
func waitingEntry(c impl.CodInst) impl.RobItem {
	f := forms[c.Kind]
	it := emptyEntry(fetchedWord(f.wordOf(c)), 0)
	it.Inst, it.D = c, c.D
	if strings.ContainsRune(f.bits, 'A') {
		it.A = 9
	}
	if strings.ContainsRune(f.bits, 'B') {
		it.B = 12
	}
	if c.D > 0 {
		it.New, it.Old = 17, 3
	}
	return it
}

// executedEntry has the result of an instruction that is not alone.
func executedEntry(c impl.CodInst) impl.RobItem {
	it := waitingEntry(c)
	it.Done, it.Next = true, 21
	switch c.Kind {
	case impl.CodLoad:
		it.Addr, it.From = 100, 2
	case impl.CodSave:
		it.Addr, it.Data = 100, 777
	}
	return it
}

// faultedEntry is a CodLoad or a CodSave without a translation.
func faultedEntry(c impl.CodInst) impl.RobItem {
	it := waitingEntry(c)
	it.Done, it.Why = true, impl.WhyLoad
	if c.Kind == impl.CodSave {
		it.Why = impl.WhySave
	}
	return it
}

// changedEntry is a copy with the change.
func changedEntry(it impl.RobItem, change func(*impl.RobItem)) impl.RobItem {
	change(&it)
	return it
}

func isAlone(c impl.CodInst) bool {
	return slices.Contains(aloneKinds, c.Kind)
}

// entriesOf has a valid entry for every state that an instruction may be in.
func entriesOf(c impl.CodInst) []impl.RobItem {
	out := []impl.RobItem{waitingEntry(c)}
	if !isAlone(c) {
		out = append(out, executedEntry(c))
	}
	if c.Kind == impl.CodLoad || c.Kind == impl.CodSave {
		out = append(out, faultedEntry(c))
	}
	return out
}

// someInstructions has several of each kind, with and without a destination.
func someInstructions() []impl.CodInst {
	out := []impl.CodInst{}
	for _, f := range forms {
		all := f.every()
		out = append(out, all[0], all[len(all)/3], all[len(all)/2], all[len(all)-1])
	}
	return out
}

// manyEntries are valid, with each kind in each of its states.
func manyEntries() []impl.RobItem {
	out := []impl.RobItem{lostEntry()}
	for _, w := range barrenWords {
		out = append(out, barrenEntry(w))
	}
	for _, c := range someInstructions() {
		out = append(out, entriesOf(c)...)
	}
	return out
}

// entryValid fails the test unless ItmOk has the wanted result.
func entryValid(t *testing.T, it impl.RobItem, want bool) {
	t.Helper()
	if got := impl.ItmOk(it); got != want {
		t.Fatalf("ItmOk(%+v) = %t", it, got)
	}
}

// entryField is a number of an entry, and the least and the greatest value that it may have while all others stay.
type entryField struct {
	name     string
	place    func(*impl.RobItem) *int
	least    int
	greatest int
}

// only is a field that may not change.
func only(name string, place func(*impl.RobItem) *int, it impl.RobItem) entryField {
	return entryField{name, place, *place(&it), *place(&it)}
}

// within is a field that has its limits where it applies, and otherwise may not change.
func within(name string, place func(*impl.RobItem) *int, it impl.RobItem, applies bool, least int, greatest int) entryField {
	if !applies {
		return only(name, place, it)
	}
	return entryField{name, place, least, greatest}
}

// fetchedFields are those of the fetched instruction except for its word.
func fetchedFields(it impl.RobItem) []entryField {
	return []entryField{
		{"Took.Pc", func(it *impl.RobItem) *int { return &it.Took.Pc }, 0, 65535},
		within("Took.At", func(it *impl.RobItem) *int { return &it.Took.At }, it, it.Took.Why == 0, 0, 255),
		only("Took.Why", func(it *impl.RobItem) *int { return &it.Took.Why }, it),
		{"Took.Guess", func(it *impl.RobItem) *int { return &it.Took.Guess }, 0, 65535},
		only("Inst.Kind", func(it *impl.RobItem) *int { return &it.Inst.Kind }, it),
		only("Inst.D", func(it *impl.RobItem) *int { return &it.Inst.D }, it),
		only("Inst.A", func(it *impl.RobItem) *int { return &it.Inst.A }, it),
		only("Inst.B", func(it *impl.RobItem) *int { return &it.Inst.B }, it),
		only("Inst.F", func(it *impl.RobItem) *int { return &it.Inst.F }, it),
		only("Inst.N", func(it *impl.RobItem) *int { return &it.Inst.N }, it),
	}
}

// ownFields are the others, for a valid entry.
func ownFields(it impl.RobItem) []entryField {
	executed := it.Done && it.Why == 0
	load, save := it.Inst.Kind == impl.CodLoad, it.Inst.Kind == impl.CodSave
	return []entryField{
		{"No", func(it *impl.RobItem) *int { return &it.No }, it.From + 1, math.MaxInt},
		only("Why", func(it *impl.RobItem) *int { return &it.Why }, it),
		within("A", func(it *impl.RobItem) *int { return &it.A }, it, it.A >= 0, 0, 19),
		within("B", func(it *impl.RobItem) *int { return &it.B }, it, it.B >= 0, 0, 19),
		only("D", func(it *impl.RobItem) *int { return &it.D }, it),
		within("New", func(it *impl.RobItem) *int { return &it.New }, it, it.D > 0, 0, 19),
		within("Old", func(it *impl.RobItem) *int { return &it.Old }, it, it.D > 0, 0, 19),
		within("Next", func(it *impl.RobItem) *int { return &it.Next }, it, executed, 0, 65535),
		within("Addr", func(it *impl.RobItem) *int { return &it.Addr }, it, executed && (load || save), 0, 255),
		within("Data", func(it *impl.RobItem) *int { return &it.Data }, it, executed && save, 0, 65535),
		within("From", func(it *impl.RobItem) *int { return &it.From }, it, executed && load, -1, it.No-1),
	}
}

// nearby are values in, at and beyond the limits of any field.
func nearby(f entryField, now int) []int {
	out := []int{math.MinInt, -65536, -256, -20, -2, -1, 0, 1, 2, 3, 4, 5, 6, 7, 8, 15, 16, 18, 19, 20, 21, 32, 255, 256, 65535, 65536, math.MaxInt}
	return append(out, now-1, now+1, f.least-1, f.least, f.greatest, f.greatest+1)
}

func TestItemConstants(t *testing.T) {
	if impl.RobMost != 8 || impl.FchMost != 4 {
		t.Fatal("RobMost, FchMost:", impl.RobMost, impl.FchMost)
	}
}

func TestP52AloneKinds(t *testing.T) {
	for _, f := range forms {
		for _, c := range f.every() {
			if got := impl.ItmAlone(c); got != isAlone(c) {
				t.Fatalf("ItmAlone(%+v) = %t", c, got)
			}
		}
	}
}

func TestP52AloneInvalidInstructions(t *testing.T) {
	for _, c := range append(invalidInstructions(), impl.CodInst{Kind: impl.CodWait, N: 1}, impl.CodInst{Kind: impl.CodSys, D: 1}, impl.CodInst{Kind: impl.CodGet, F: impl.CtlMany}) {
		if impl.ItmAlone(c) {
			t.Fatalf("ItmAlone(%+v)", c)
		}
	}
}

func TestP52EveryInstruction(t *testing.T) {
	for c := range everyInstruction() {
		for _, it := range entriesOf(c) {
			entryValid(t, it, true)
		}
		entryValid(t, changedEntry(waitingEntry(c), func(it *impl.RobItem) { it.Why = impl.WhyCode }), false)
		entryValid(t, barrenEntry(waitingEntry(c).Took.Word), false)
	}
}

func TestP52EveryWord(t *testing.T) {
	for w := range impl.WrdTop {
		_, encodes := impl.CodRead(w)
		entryValid(t, barrenEntry(w), !encodes)
	}
}

// Of a valid entry every number is changed for itself. A word that encodes no instruction may be any other such one.
func TestP52OneNumberChanges(t *testing.T) {
	for _, it := range manyEntries() {
		entryValid(t, it, true)
		for _, f := range append(fetchedFields(it), ownFields(it)...) {
			for _, value := range nearby(f, *f.place(&it)) {
				x := changedEntry(it, func(x *impl.RobItem) { *f.place(x) = value })
				if got := impl.ItmOk(x); got != (f.least <= value && value <= f.greatest) {
					t.Fatalf("%+v: %s = %d: %t", it, f.name, value, got)
				}
			}
		}
	}
}

func TestP52TheWordChanges(t *testing.T) {
	words := slices.Concat(sampleWords(), barrenWords, notWords, []int{-1})
	for _, it := range manyEntries() {
		for _, w := range append(words, it.Took.Word-1, it.Took.Word+1, it.Took.Word+8) {
			_, encodes := impl.CodRead(w)
			want := w == it.Took.Word || it.Why == impl.WhyCode && 0 <= w && w < impl.WrdTop && !encodes
			entryValid(t, changedEntry(it, func(x *impl.RobItem) { x.Took.Word = w }), want)
		}
	}
}

// An entry may be called done without another change only if it is not alone, has no address, and goes on at the address 0.
func TestP52DoneChanges(t *testing.T) {
	for _, it := range manyEntries() {
		memory := it.Inst.Kind == impl.CodLoad || it.Inst.Kind == impl.CodSave
		x := changedEntry(it, func(x *impl.RobItem) { x.Done = !x.Done })
		entryValid(t, x, it.Why == 0 && it.Next == 0 && !memory && !isAlone(it.Inst))
	}
}

func TestP52FailedFetches(t *testing.T) {
	it := lostEntry()
	entryValid(t, it, true)
	for _, why := range []int{-1, 0, impl.WhyCode, impl.WhyLoad, impl.WhySave, impl.WhySys, impl.WhyMay, impl.WhyRing} {
		entryValid(t, changedEntry(it, func(x *impl.RobItem) { x.Why = why }), false)
		entryValid(t, changedEntry(it, func(x *impl.RobItem) { x.Took.Why = why }), false)
		entryValid(t, changedEntry(it, func(x *impl.RobItem) { x.Why, x.Took.Why = why, why }), false)
	}
	for _, w := range []int{0, 36, 65535} {
		entryValid(t, changedEntry(it, func(x *impl.RobItem) { x.Took.Word = w }), false)
		entryValid(t, changedEntry(it, func(x *impl.RobItem) { x.Took.At = w }), false)
		entryValid(t, changedEntry(it, func(x *impl.RobItem) { x.Took.Word, x.Took.At = w, 36 }), false)
	}
	entryValid(t, changedEntry(it, func(x *impl.RobItem) { x.Done = true }), false)
}

// The zero value of an instruction is an addition, whose entry must not stand for a word that encodes nothing.
func TestP52NoInstructionIsNotTheFirstKind(t *testing.T) {
	for _, f := range []impl.FchItem{lostItem(), fetchedWord(0x9001), fetchedWord(0xffff)} {
		for _, it := range []impl.RobItem{waitingEntry(impl.CodInst{}), executedEntry(impl.CodInst{})} {
			for _, why := range []int{0, impl.WhyCode, impl.WhyTake} {
				entryValid(t, changedEntry(it, func(x *impl.RobItem) { x.Took, x.Why = f, why }), false)
			}
		}
		entryValid(t, emptyEntry(f, 0), false)
	}
	entryValid(t, emptyEntry(fetchedWord(0), 0), false)
}

func TestP52InstIsTheFetchedInstruction(t *testing.T) {
	some := someInstructions()
	for _, c := range some {
		for _, other := range some {
			for k, it := range entriesOf(c) {
				entries := entriesOf(other)
				if k >= len(entries) {
					continue
				}
				entryValid(t, changedEntry(it, func(x *impl.RobItem) { x.Inst = other }), c == other)
				entryValid(t, changedEntry(entries[k], func(x *impl.RobItem) { x.Took = it.Took }), c == other)
			}
		}
	}
}

func TestP52RegisterZero(t *testing.T) {
	for _, kind := range []int{impl.CodAlu, impl.CodAddi, impl.CodLui, impl.CodLoad, impl.CodJump, impl.CodCall, impl.CodMul, impl.CodSwap, impl.CodGet} {
		for d := range impl.RegMany {
			for _, it := range entriesOf(impl.CodInst{Kind: kind, D: d}) {
				entryValid(t, it, true)
				entryValid(t, changedEntry(it, func(x *impl.RobItem) { x.New, x.Old = -1, -1 }), d == 0)
				entryValid(t, changedEntry(it, func(x *impl.RobItem) { x.New, x.Old = 8, 1 }), d > 0)
				entryValid(t, changedEntry(it, func(x *impl.RobItem) { x.New, x.Old = 0, impl.PhyMany-1 }), d > 0)
				entryValid(t, changedEntry(it, func(x *impl.RobItem) { x.New, x.Old = 8, -1 }), false)
				entryValid(t, changedEntry(it, func(x *impl.RobItem) { x.New, x.Old = -1, 8 }), false)
			}
		}
	}
	for _, kind := range []int{impl.CodSave, impl.CodEq, impl.CodLt, impl.CodWait, impl.CodSys, impl.CodBack, impl.CodSet} {
		for _, it := range entriesOf(impl.CodInst{Kind: kind}) {
			entryValid(t, changedEntry(it, func(x *impl.RobItem) { x.New, x.Old = 8, 1 }), false)
			entryValid(t, changedEntry(it, func(x *impl.RobItem) { x.D, x.New, x.Old = 1, 8, 1 }), false)
		}
	}
}

// An operand has a physical register even if it is register 0.
func TestP52Operands(t *testing.T) {
	for _, x := range []struct {
		kinds []int
		a, b  bool
	}{
		{[]int{impl.CodAlu, impl.CodMul, impl.CodSwap, impl.CodSave, impl.CodEq, impl.CodLt}, true, true},
		{[]int{impl.CodAddi, impl.CodLoad, impl.CodCall, impl.CodSet}, true, false},
		{[]int{impl.CodLui, impl.CodJump, impl.CodWait, impl.CodSys, impl.CodBack, impl.CodGet}, false, false},
	} {
		for _, kind := range x.kinds {
			for _, it := range entriesOf(impl.CodInst{Kind: kind}) {
				for _, a := range []int{-2, -1, 0, 19, 20} {
					for _, b := range []int{-2, -1, 0, 19, 20} {
						want := (0 <= a && a <= 19) == x.a && (0 <= b && b <= 19) == x.b && (x.a || a == -1) && (x.b || b == -1)
						entryValid(t, changedEntry(it, func(it *impl.RobItem) { it.A, it.B = a, b }), want)
					}
				}
			}
		}
	}
}

func TestP52AloneIsNotDone(t *testing.T) {
	for _, c := range someInstructions() {
		if !isAlone(c) {
			continue
		}
		entryValid(t, waitingEntry(c), true)
		for _, next := range []int{0, 21, 65535} {
			for why := range impl.WhyRing + 1 {
				it := changedEntry(waitingEntry(c), func(x *impl.RobItem) { x.Done, x.Next, x.Why = true, next, why })
				entryValid(t, it, false)
				entryValid(t, changedEntry(it, func(x *impl.RobItem) { x.Addr = 100 }), false)
				entryValid(t, changedEntry(it, func(x *impl.RobItem) { x.Addr, x.Data = 100, 777 }), false)
			}
		}
	}
}

func TestP52Faults(t *testing.T) {
	for _, c := range someInstructions() {
		for _, why := range []int{math.MinInt, -1, 1, 2, 3, 4, 5, 6, 7, 8, math.MaxInt} {
			want := c.Kind == impl.CodLoad && why == 3 || c.Kind == impl.CodSave && why == 4
			it := changedEntry(waitingEntry(c), func(x *impl.RobItem) { x.Done, x.Why = true, why })
			entryValid(t, it, want)
			entryValid(t, changedEntry(it, func(x *impl.RobItem) { x.Done = false }), false)
			entryValid(t, changedEntry(it, func(x *impl.RobItem) { x.Next = 21 }), false)
			entryValid(t, changedEntry(it, func(x *impl.RobItem) { x.Addr = 100 }), false)
			entryValid(t, changedEntry(it, func(x *impl.RobItem) { x.Data = 777 }), false)
			entryValid(t, changedEntry(it, func(x *impl.RobItem) { x.From = 2 }), false)
			entryValid(t, changedEntry(executedEntry(c), func(x *impl.RobItem) { x.Why = why }), false)
		}
	}
}

func TestP52LoadsAndStores(t *testing.T) {
	load := waitingEntry(impl.CodInst{Kind: impl.CodLoad, D: 1, A: 2, N: -3})
	save := waitingEntry(impl.CodInst{Kind: impl.CodSave, A: 1, B: 2, N: -3})
	add := waitingEntry(impl.CodInst{Kind: impl.CodAddi, D: 1, A: 2, N: -3})
	for _, x := range []struct {
		no, addr, data, from int
		load, save, add      bool
	}{
		{5, -1, 0, -1, false, false, true},
		{5, -1, 7, -1, false, false, false},
		{5, -1, 0, 4, false, false, false},
		{5, 0, 0, -1, true, true, false},
		{5, 255, 0, -1, true, true, false},
		{5, 256, 0, -1, false, false, false},
		{5, -2, 0, -1, false, false, false},
		{5, 9, 1, -1, false, true, false},
		{5, 9, 65535, -1, false, true, false},
		{5, 9, 65536, -1, false, false, false},
		{5, 9, -1, -1, false, false, false},
		{5, 9, 0, 0, true, false, false},
		{5, 9, 0, 4, true, false, false},
		{5, 9, 0, 5, false, false, false},
		{5, 9, 0, 6, false, false, false},
		{5, 9, 0, -2, false, false, false},
		{5, 9, 1, 4, false, false, false},
		{0, 9, 0, -1, true, true, false},
		{0, 9, 0, 0, false, false, false},
		{1, 9, 0, 0, true, false, false},
		{-1, 9, 0, -1, false, false, false},
		{-1, -1, 0, -1, false, false, false},
		{math.MaxInt, 9, 0, math.MaxInt - 1, true, false, false},
		{math.MaxInt, 9, 0, math.MaxInt, false, false, false},
	} {
		change := func(it *impl.RobItem) {
			it.Done, it.No, it.Addr, it.Data, it.From = true, x.no, x.addr, x.data, x.from
		}
		entryValid(t, changedEntry(load, change), x.load)
		entryValid(t, changedEntry(save, change), x.save)
		entryValid(t, changedEntry(add, change), x.add)
	}
}

// An address is there if and only if a CodLoad or a CodSave is done without a fault.
func TestP52Addresses(t *testing.T) {
	for _, it := range manyEntries() {
		memory := it.Inst.Kind == impl.CodLoad || it.Inst.Kind == impl.CodSave
		for _, done := range []bool{false, true} {
			for _, addr := range []int{-1, 0, 100, 255} {
				x := changedEntry(it, func(x *impl.RobItem) { x.Done, x.Addr = done, addr })
				if impl.ItmOk(x) && (addr >= 0) != (done && memory && it.Why == 0) {
					t.Fatalf("valid: %+v", x)
				}
			}
		}
	}
}

func TestP52TheZeroValue(t *testing.T) {
	entryValid(t, impl.RobItem{}, false)
	// With physical registers it is the first kind of instruction, about register 0 alone.
	entryValid(t, impl.RobItem{New: -1, Old: -1, Addr: -1, From: -1}, true)
}
