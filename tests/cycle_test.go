package tests

import (
	"math"
	"slices"
	"testing"

	"loop.example/harbinger/impl"
)

// numbersOf are the sequence numbers of the entries.
func numbersOf(s impl.CorState) []int {
	out := []int{}
	for _, it := range s.Rob {
		out = append(out, it.No)
	}
	return out
}

// addressesOf are those of the fetched instructions.
func addressesOf(s impl.CorState) []int {
	out := []int{}
	for _, f := range s.Fetched {
		out = append(out, f.Pc)
	}
	return out
}

// doneOnes are the sequence numbers of the entries that are Done.
func doneOnes(s impl.CorState) []int {
	out := []int{}
	for _, it := range s.Rob {
		if it.Done {
			out = append(out, it.No)
		}
	}
	return out
}

// stands fails the test unless these entries are in flight, these addresses are fetched, and fetching goes on there.
func stands(t *testing.T, s impl.CorState, numbers []int, addresses []int, pc int) {
	t.Helper()
	if !slices.Equal(numbersOf(s), numbers) || !slices.Equal(addressesOf(s), addresses) || s.Pc != pc {
		t.Fatalf("entries %v, fetched %v, at %d, want %v, %v, %d, in %+v", numbersOf(s), addressesOf(s), s.Pc, numbers, addresses, pc, s)
	}
}

// done fails the test unless just these entries are Done.
func done(t *testing.T, s impl.CorState, numbers ...int) {
	t.Helper()
	if !slices.Equal(doneOnes(s), numbers) {
		t.Fatalf("%v are done, want %v, in %+v", doneOnes(s), numbers, s)
	}
}

// reports fails the test unless a cycle reports events at just these addresses.
func reports(t *testing.T, events []impl.PlnEvent, addresses ...int) {
	t.Helper()
	got := []int{}
	for _, e := range events {
		got = append(got, e.Pc)
	}
	if !slices.Equal(got, addresses) {
		t.Fatalf("events %v, want them at %v", events, addresses)
	}
}

// starting is a core at the beginning of a text that has run ahead for some cycles.
func starting(t *testing.T, cycles int, lines ...string) impl.CorState {
	t.Helper()
	return launched(t, impl.CorNew(assembled(t, lines...)), cycles)
}

// startingWith is such a core whose registers have other values, by their numbers.
func startingWith(t *testing.T, cycles int, regs map[int]int, lines ...string) impl.CorState {
	t.Helper()
	return launched(t, coreIn(with(impl.PlnNew(assembled(t, lines...)), regs)), cycles)
}

// userState has a text at the address 0 in user mode. Page k is frame k and may be written, except for page 3, which may only be read, page 4, which has no frame, and page 5, which is frame 2, too.
func userState(t *testing.T, lines ...string) impl.PlnState {
	t.Helper()
	p := impl.PlnNew(assembled(t, lines...))
	p.Ctl = []int{0, 0, userTable, 1, 0}
	for page := range impl.PagMany {
		p.Mem[userTable+page] = 32 + 16 + page
	}
	p.Mem[userTable+3] -= 32
	p.Mem[userTable+4] = 0
	p.Mem[userTable+5] = 32 + 16 + 2
	return p
}

// startingUser is a core in that state that has run ahead for some cycles.
func startingUser(t *testing.T, cycles int, lines ...string) impl.CorState {
	t.Helper()
	return launched(t, coreIn(userState(t, lines...)), cycles)
}

// nops are so many instructions that are ready at once and change nothing.
func nops(many int) []string {
	return slices.Repeat([]string{"add r0 r0 r0"}, many)
}

// The example of the specification: the addition retires in the fourth cycle, in which the system call traps.
func TestP3TheExample(t *testing.T) {
	s := starting(t, 1, "addi r1 r0 7", "sys 2")
	want := [][]int{nil, nil, {0, 1}, nil}
	for _, addresses := range want {
		x, events := cycle(t, s, impl.CorIn{Picks: []int{0}})
		reports(t, events, addresses...)
		if len(events) == 2 && (events[0].Val != 7 || events[1].Why != 37) {
			t.Fatalf("%+v", events)
		}
		s = x
	}
	if p := impl.CorAbs(s); p.Pc != 8 || !slices.Equal(p.Regs, []int{0, 7, 0, 0, 0, 0, 0, 0}) {
		t.Fatalf("%+v", p)
	}
}

func TestP67TwoPerCycle(t *testing.T) {
	s := starting(t, 0, nops(40)...)
	for _, want := range []struct {
		numbers, addresses []int
		pc                 int
	}{
		{nil, []int{0, 1}, 2},
		{[]int{0, 1}, []int{2, 3}, 4},
		{[]int{0, 1, 2, 3}, []int{4, 5}, 6},
		{[]int{0, 1, 2, 3, 4, 5}, []int{6, 7}, 8},
		{[]int{0, 1, 2, 3, 4, 5, 6, 7}, []int{8, 9}, 10},
		{[]int{0, 1, 2, 3, 4, 5, 6, 7}, []int{8, 9, 10, 11}, 12},
		{[]int{0, 1, 2, 3, 4, 5, 6, 7}, []int{8, 9, 10, 11}, 12},
	} {
		x, events := cycle(t, s, impl.CorIn{})
		stands(t, x, want.numbers, want.addresses, want.pc)
		reports(t, events)
		s = x
	}
	s, _ = cycle(t, s, impl.CorIn{Picks: []int{0, 0}})
	done(t, s, 0, 1)
	s, events := cycle(t, s, impl.CorIn{Picks: []int{0}})
	reports(t, events, 0, 1)
	stands(t, s, []int{2, 3, 4, 5, 6, 7, 8, 9}, []int{10, 11, 12, 13}, 14)
	// One place is free in the reorder buffer, and then one in the queue.
	s, events = cycle(t, s, impl.CorIn{Picks: []int{0}})
	reports(t, events, 2)
	stands(t, s, []int{3, 4, 5, 6, 7, 8, 9, 10}, []int{11, 12, 13, 14}, 15)
}

func TestP67TheOldestRetire(t *testing.T) {
	s := starting(t, 6, nops(40)...)
	s = executed(t, s, 7, 3, 1)
	done(t, s, 1, 3, 7)
	x, events := cycle(t, s, impl.CorIn{})
	reports(t, events)
	s = executed(t, x, 2, 0)
	s, events = cycle(t, s, impl.CorIn{})
	reports(t, events, 0, 1)
	s, events = cycle(t, s, impl.CorIn{})
	reports(t, events, 2, 3)
	_, events = cycle(t, s, impl.CorIn{})
	reports(t, events)
}

func TestP59FullBuffersStay(t *testing.T) {
	full := []impl.CorState{starting(t, 6, nops(40)...), starting(t, 9, busyProgram...), startingUser(t, 9, nops(40)...)}
	for _, s := range full {
		x, events := cycle(t, s, impl.CorIn{})
		if !sameCores(x, s) || len(events) != 0 || len(s.Rob) != impl.RobMost {
			t.Fatalf("%+v becomes %+v, %v", s, x, events)
		}
	}
}

func TestP59WithoutExecution(t *testing.T) {
	quiet := 0
	for _, s := range reached() {
		x, events := cycle(t, s, impl.CorIn{})
		if len(events) > 0 {
			continue
		}
		quiet++
		if len(x.Rob) < len(s.Rob) || !slices.Equal(x.Rob[:len(s.Rob)], s.Rob) || !sameCaches(x.Chc, s.Chc) || !slices.Equal(x.Ctl, s.Ctl) {
			t.Fatalf("%+v becomes %+v", s, x)
		}
		if fresh := len(x.Rob) - len(s.Rob); fresh > 2 || x.Nos != s.Nos+fresh {
			t.Fatalf("%+v becomes %+v", s, x)
		}
	}
	if quiet < 50 {
		t.Fatal("quiet cycles:", quiet)
	}
}

// Pick k executes the ready entry with the index k modulo their number.
func TestP56PicksCountReadyEntries(t *testing.T) {
	lines := []string{"mul r1 r0 r0", "add r2 r1 r1", "get r3 4", "lui r4 5", "add r5 r3 r4", "jump r6 0", "addi r7 r0 1", "word 65535"}
	s := starting(t, 6, lines...)
	// Ready are 0, 3, 5 and 6.
	for _, x := range []struct {
		picks []int
		done  []int
	}{
		{nil, nil},
		{[]int{0}, []int{0}},
		{[]int{1}, []int{3}},
		{[]int{2}, []int{5}},
		{[]int{3}, []int{6}},
		{[]int{4}, []int{0}},
		{[]int{1003}, []int{6}},
		{[]int{math.MaxInt}, []int{6}},
		{[]int{math.MaxInt - 1}, []int{5}},
		// The first pick makes 1 ready, or leaves three.
		{[]int{0, 0}, []int{0, 1}},
		{[]int{0, 1}, []int{0, 3}},
		{[]int{0, 4}, []int{0, 1}},
		{[]int{3, 3}, []int{0, 6}},
		{[]int{3, 2}, []int{5, 6}},
		{[]int{1, 0}, []int{0, 3}},
		{[]int{2, 2}, []int{5, 6}},
		{[]int{7, 3}, []int{0, 6}},
	} {
		got, _ := cycle(t, s, impl.CorIn{Picks: x.picks})
		done(t, got, x.done...)
	}
}

// Without a ready entry, picks do nothing.
func TestP56NothingIsReady(t *testing.T) {
	lines := []string{"mul r1 r0 r0", "sys 3", "word 65535", "get r1 4", "add r2 r1 r1", "wait", "back", "set r1 4"}
	s := starting(t, 7, lines...)
	s = executed(t, s, 0)
	for _, picks := range [][]int{{0}, {7}, {0, 0}, {math.MaxInt, 3}} {
		x, _ := cycle(t, s, impl.CorIn{Picks: picks})
		want, _ := cycle(t, s, impl.CorIn{})
		if !sameCores(x, want) {
			t.Fatalf("picks %v: %+v, want %+v", picks, x, want)
		}
	}
}

// The physical registers are taken, given back and squashed in a certain order.
func TestP55OrderOfTheFreeList(t *testing.T) {
	free := func(s impl.CorState, want ...int) {
		t.Helper()
		if !slices.Equal(s.Nam.Free, want) {
			t.Fatalf("free are %v, want %v", s.Nam.Free, want)
		}
	}
	s := starting(t, 6, "eq r0 r0 9", "addi r1 r0 1", "addi r2 r0 1", "addi r1 r1 1", "save r1 r1 0", "addi r0 r0 1", "addi r3 r1 1", "addi r4 r1 1")
	free(s, 13, 14, 15, 16, 17, 18, 19)
	if !slices.Equal(s.Nam.Map, []int{0, 10, 9, 11, 12, 5, 6, 7}) || s.Rob[3].Old != 8 || s.Rob[3].A != 8 || s.Rob[4].A != 10 {
		t.Fatalf("%+v", s)
	}
	// The youngest entry is squashed first.
	x := executed(t, s, 0)
	free(x, 13, 14, 15, 16, 17, 18, 19, 12, 11, 10, 9, 8)
	stands(t, x, []int{0}, []int{10, 11}, 12)
	// The oldest one retires first.
	s = starting(t, 6, "addi r1 r0 1", "addi r2 r0 1", "addi r1 r1 1", "addi r0 r0 1", "wait", "wait", "wait", "wait")
	free(s, 11, 12, 13, 14, 15, 16, 17, 18, 19)
	s = executed(t, s, 1, 0)
	s, _ = cycle(t, s, impl.CorIn{})
	free(s, 11, 12, 13, 14, 15, 16, 17, 18, 19, 1, 2)
	// An instruction that is executed at the head retires before those behind it are squashed.
	s = starting(t, 6, "addi r7 r0 1", "swap r1 r0 r0", "addi r2 r0 1", "addi r1 r1 1", "wait", "wait", "wait", "wait")
	free(s, 12, 13, 14, 15, 16, 17, 18, 19)
	s, _ = cycle(t, executed(t, s, 0), impl.CorIn{})
	free(s, 12, 13, 14, 15, 16, 17, 18, 19, 7, 1, 11, 10)
	// One that traps is squashed, too.
	s = startingUser(t, 6, "addi r7 r0 1", "get r1 0", "addi r2 r0 1", "addi r1 r1 1", "wait", "wait", "wait", "wait")
	s, _ = cycle(t, executed(t, s, 0), impl.CorIn{})
	free(s, 12, 13, 14, 15, 16, 17, 18, 19, 7, 11, 10, 9)
}

// continues fails the test unless executing an entry squashes all younger ones and fetching goes on at that address.
func continues(t *testing.T, s impl.CorState, no int, to int) impl.CorState {
	t.Helper()
	k := entry(t, s, no)
	x := executed(t, s, no)
	it := x.Rob[len(x.Rob)-1]
	if len(x.Rob) != k+1 || it.Next != to || it.Took.Guess != to || x.Stop || x.Pc != (to+2)%65536 {
		t.Fatalf("entry %d goes on in %+v, want %d", no, x, to)
	}
	stands(t, x, numbersOf(s)[:k+1], []int{to, (to + 1) % 65536}, (to+2)%65536)
	return x
}

// passes fails the test unless executing an entry squashes nothing.
func passes(t *testing.T, s impl.CorState, no int) impl.CorState {
	t.Helper()
	x := executed(t, s, no)
	if len(x.Rob) < len(s.Rob) || x.Rob[entry(t, s, no)].Next != s.Rob[entry(t, s, no)].Took.Guess {
		t.Fatalf("entry %d: %+v", no, x)
	}
	return x
}

func TestP95MispredictedBranches(t *testing.T) {
	continues(t, starting(t, 4, "addi r1 r0 1", "eq r0 r0 5", "save r1 r1 9"), 1, 7)
	continues(t, starting(t, 4, "addi r1 r0 1", "eq r2 r2 -2", "save r1 r1 9"), 1, 0)
	continues(t, startingWith(t, 4, map[int]int{2: 65535}, "addi r1 r0 1", "lt r2 r0 20", "save r1 r1 9"), 1, 22)
	passes(t, starting(t, 4, "addi r1 r0 1", "eq r0 r0 0"), 1)
	passes(t, startingWith(t, 4, map[int]int{2: 1}, "addi r1 r0 1", "eq r2 r3 5"), 1)
	passes(t, startingWith(t, 4, map[int]int{2: 65535}, "addi r1 r0 1", "lt r0 r2 5"), 1)
}

// A branch that was learned is predicted to be taken, until it is not.
func TestP95BranchesThatAreNotTaken(t *testing.T) {
	s := startingWith(t, 0, map[int]int{2: 1}, "addi r1 r0 1", "eq r2 r3 5", "save r1 r1 9")
	s.Gue.Slots[1] = impl.GueSlot{Used: true, Pc: 1, To: 7, Sure: 3}
	s = launched(t, s, 3)
	if s.Rob[2].Took.Pc != 7 {
		t.Fatalf("%+v", s)
	}
	s = continues(t, s, 1, 2)
	// It is learned when it retires, and not before.
	if s.Gue.Slots[1].Sure != 3 {
		t.Fatalf("%+v", s.Gue)
	}
	s = executed(t, s, 0)
	s, events := cycle(t, s, impl.CorIn{})
	reports(t, events, 0, 1)
	if s.Gue.Slots[1] != (impl.GueSlot{Used: true, Pc: 1, To: 7, Sure: 2}) || s.Gue.Slots[0].Used {
		t.Fatalf("%+v", s.Gue)
	}
}

// Of the instructions that are executed out of order only branches, jumps and calls are learned.
func TestP95WhatIsLearned(t *testing.T) {
	for _, x := range []struct {
		line   string
		to     int
		learns bool
	}{
		{"eq r0 r0 3", 4, true},
		{"eq r1 r0 3", 1, false},
		{"lt r0 r1 3", 4, true},
		{"lt r1 r0 3", 1, false},
		{"jump r2 3", 4, true},
		{"jump r0 0", 1, false},
		{"call r2 r1 2", 22, true},
		{"call r0 r1 2", 22, true},
		{"add r1 r1 r1", 1, false},
		{"load r1 r1 9", 1, false},
		{"save r1 r1 9", 1, false},
		{"addi r1 r1 9", 1, false},
		{"lui r1 9", 1, false},
		{"mul r1 r1 r1", 1, false},
	} {
		s := executed(t, startingWith(t, 3, map[int]int{1: 20}, x.line), 0)
		s, events := cycle(t, s, impl.CorIn{})
		reports(t, events, 0)
		want := impl.GueSlot{}
		if x.learns {
			want = impl.GueSlot{Used: true, To: x.to, Sure: 2}
		}
		if s.Gue.Slots[0] != want {
			t.Fatalf("%s: %+v", x.line, s.Gue)
		}
	}
}

// An instruction that is not a branch can be predicted to go elsewhere by a slot that an earlier one at its address has left.
func TestP95OtherInstructionsThatAreMispredicted(t *testing.T) {
	for _, line := range []string{"add r1 r2 r2", "addi r1 r0 4", "lui r1 4", "mul r1 r0 r0", "load r1 r0 30", "save r0 r2 30", "lt r0 r0 9", "call r1 r0 2"} {
		s := starting(t, 0, "addi r1 r0 1", line, "wait")
		s.Gue.Slots[1] = impl.GueSlot{Used: true, Pc: 1, To: 30, Sure: 2}
		s = launched(t, s, 3)
		if s.Rob[2].Took.Pc != 30 {
			t.Fatalf("%s: %+v", line, s)
		}
		continues(t, s, 1, 2)
	}
}

// Nothing younger needs to be there for the fetched instructions to be dropped.
func TestP95MispredictedYoungestEntry(t *testing.T) {
	s := starting(t, 5, "addi r1 r0 1", "addi r1 r0 1", "addi r1 r0 1", "addi r1 r0 1", "addi r1 r0 1", "addi r1 r0 1", "addi r1 r0 1", "eq r0 r0 9", "jump r0 255")
	if len(s.Rob) != 8 || len(s.Fetched) != 2 {
		t.Fatalf("%+v", s)
	}
	s = launched(t, s, 1)
	if !s.Stop || s.Fetched[1].Why != impl.WhyTake {
		t.Fatalf("%+v", s)
	}
	continues(t, s, 7, 17)
}

func TestP95MispredictedCallsAndReturns(t *testing.T) {
	regs := map[int]int{1: 40, 7: 50}
	// A call is predicted to go on behind it.
	s := continues(t, startingWith(t, 4, regs, "addi r2 r0 1", "call r3 r1 -3", "save r1 r1 9"), 1, 37)
	if s.Nam.Vals[s.Rob[1].New] != 2 {
		t.Fatalf("%+v", s)
	}
	// So is a return without a call.
	continues(t, startingWith(t, 4, regs, "addi r2 r0 1", "call r0 r7 1", "save r1 r1 9"), 1, 51)
	// A return is predicted to go behind the last call, whose address it has here.
	s = startingWith(t, 4, regs, "jump r7 2", "wait", "wait", "call r0 r7 0")
	if s.Rob[1].Took.Guess != 1 {
		t.Fatalf("%+v", s)
	}
	s = executed(t, passes(t, s, 0), 1)
	if it := s.Rob[0]; it.No != 1 || !it.Done || it.Next != 1 || len(s.Rob) < 4 {
		t.Fatalf("%+v", s)
	}
	// Here it has another one.
	s = startingWith(t, 4, regs, "jump r7 2", "wait", "wait", "call r0 r1 0")
	if s.Rob[1].Took.Guess != 1 {
		t.Fatalf("%+v", s)
	}
	continues(t, s, 1, 40)
}

// No predictor mispredicts a jump. But an entry is valid that does not know where it goes.
func TestP95MispredictedJump(t *testing.T) {
	s := changedCore(starting(t, 2, "addi r2 r0 1", "jump r3 6", "save r1 r1 9"), func(s *impl.CorState) {
		s.Fetched, s.Pc = nil, 60
		s.Rob[1].Took.Guess = 60
	})
	s = launched(t, s, 2)
	coreValid(t, s, true)
	s = continues(t, s, 1, 8)
	if s.Nam.Vals[s.Rob[1].New] != 2 {
		t.Fatalf("%+v", s)
	}
	passes(t, starting(t, 4, "addi r2 r0 1", "jump r3 6"), 1)
}

// A squash leaves what the predictor knows of calls.
func TestP63SquashedCallsStayOnTheStack(t *testing.T) {
	s := starting(t, 3, "eq r0 r0 9", "jump r7 9", "wait")
	if !slices.Equal(s.Gue.Calls, []int{2}) {
		t.Fatalf("%+v", s.Gue)
	}
	s = executed(t, s, 0)
	if !slices.Equal(s.Gue.Calls, []int{2}) {
		t.Fatalf("%+v", s.Gue)
	}
}

// loadedFrom fails the test unless a load is executed with that value from that store, or from the cache.
func loadedFrom(t *testing.T, s impl.CorState, no int, value int, from int) {
	t.Helper()
	it := s.Rob[entry(t, s, no)]
	if !it.Done || it.Why != 0 || it.From != from || s.Nam.Vals[it.New] != value || !s.Nam.Here[it.New] {
		t.Fatalf("entry %d: %+v, want %d from %d, in %+v", no, it, value, from, s)
	}
}

// memoryCore has the text behind an entry that only needs to be executed for the others to retire. Addresses are ready from the beginning: 100 in r1 and r2, 200 in r3.
func memoryCore(t *testing.T, lines ...string) impl.CorState {
	t.Helper()
	p := with(impl.PlnNew(assembled(t, append([]string{"addi r7 r0 1"}, lines...)...)), map[int]int{1: 100, 2: 100, 3: 200, 4: 44, 5: 55})
	p.Mem[100], p.Mem[200] = 1000, 2000
	return launched(t, coreIn(p), 6)
}

func TestP66LoadAheadOfAStoreToItsAddress(t *testing.T) {
	s := memoryCore(t, "save r1 r4 0", "load r6 r2 0", "addi r5 r5 1")
	s = executed(t, s, 2)
	loadedFrom(t, s, 2, 1000, -1)
	x := executed(t, s, 1)
	stands(t, x, []int{0, 1}, []int{2, 3}, 4)
	x = launched(t, x, 2)
	if x.Rob[2].No != 8 || x.Rob[2].Took.Pc != 2 {
		t.Fatalf("%+v", x)
	}
	loadedFrom(t, executed(t, x, 8), 8, 44, 1)
	// Its address is the same, and so its word: it is squashed all the same.
	s = memoryCore(t, "save r1 r4 0", "load r6 r2 0")
	s.Nam.Vals[4] = 1000
	stands(t, executed(t, s, 2, 1), []int{0, 1}, []int{2, 3}, 4)
}

func TestP66LoadAheadOfAStoreToAnotherAddress(t *testing.T) {
	s := memoryCore(t, "save r3 r4 0", "load r6 r2 0", "save r2 r4 1")
	s = executed(t, s, 2, 1, 3)
	done(t, s, 1, 2, 3)
	loadedFrom(t, s, 2, 1000, -1)
}

func TestP66LoadBehindTwoStores(t *testing.T) {
	lines := []string{"save r1 r4 0", "save r1 r5 0", "load r6 r2 0"}
	for _, order := range [][]int{{1, 2, 3}, {2, 1, 3}, {2, 3, 1}} {
		s := executed(t, memoryCore(t, lines...), order...)
		done(t, s, 1, 2, 3)
		loadedFrom(t, s, 3, 55, 2)
	}
	// It has the word of the older one when the younger one is executed.
	s := executed(t, memoryCore(t, lines...), 1, 3)
	loadedFrom(t, s, 3, 44, 1)
	stands(t, executed(t, s, 2), []int{0, 1, 2}, []int{3, 4}, 5)
	// It has that of the memory.
	s = executed(t, memoryCore(t, lines...), 3)
	stands(t, executed(t, s, 1), []int{0, 1, 2}, []int{3, 4}, 5)
	stands(t, executed(t, s, 2), []int{0, 1, 2}, []int{3, 4}, 5)
}

// From the first wrong load on everything goes, loads that are right included, and older loads stay.
func TestP66OldestWrongLoad(t *testing.T) {
	s := memoryCore(t, "load r6 r2 0", "save r1 r4 0", "load r6 r3 0", "load r6 r2 0", "addi r5 r0 1", "load r6 r2 0", "load r6 r3 0")
	s = executed(t, s, 1, 3, 6, 4, 7, 5)
	done(t, s, 1, 3, 4, 5, 6, 7)
	s = executed(t, s, 2)
	stands(t, s, []int{0, 1, 2, 3}, []int{4, 5}, 6)
	done(t, s, 1, 2, 3)
	loadedFrom(t, s, 1, 1000, -1)
	loadedFrom(t, s, 3, 2000, -1)
}

// A store does not mind loads that have a younger one's word.
func TestP66StoreBehindAYoungerStore(t *testing.T) {
	s := memoryCore(t, "save r1 r4 0", "save r2 r5 0", "load r6 r1 0", "load r6 r3 0", "load r6 r1 0")
	s = executed(t, s, 4, 2, 3, 5, 1)
	done(t, s, 1, 2, 3, 4, 5)
	loadedFrom(t, s, 5, 55, 2)
}

func TestP66WhatIsLoadedIntoTheCache(t *testing.T) {
	lines := []string{"save r1 r4 0", "load r6 r2 0", "load r6 r3 1"}
	s := executed(t, memoryCore(t, lines...), 1, 2)
	if slices.ContainsFunc(s.Chc.Lines, func(l impl.ChcLine) bool { return l.Used }) {
		t.Fatalf("a word of a store is not loaded: %+v", s.Chc)
	}
	s = executed(t, s, 3)
	if l := s.Chc.Lines[200/4%4]; l.At != 200 || l.Dirty || !slices.Equal(l.Words, []int{2000, 0, 0, 0}) {
		t.Fatalf("%+v", s.Chc)
	}
	s = executed(t, memoryCore(t, lines...), 2)
	if l := s.Chc.Lines[100/4%4]; l.At != 100 || l.Dirty || !slices.Equal(l.Words, []int{1000, 0, 0, 0}) {
		t.Fatalf("%+v", s.Chc)
	}
}

// A word that a store has left in the cache is visible to a load, and not yet in memory.
func TestP66LoadOfADirtyLine(t *testing.T) {
	s := memoryCore(t, "load r6 r2 1")
	s.Chc = impl.ChcWrite(s.Chc, 101, 7)
	s = executed(t, s, 1)
	loadedFrom(t, s, 1, 7, -1)
}

func TestP66LoadToRegisterZero(t *testing.T) {
	s := executed(t, memoryCore(t, "save r1 r4 0", "load r0 r2 0", "add r6 r0 r0"), 2)
	if it := s.Rob[2]; !it.Done || it.Addr != 100 || it.From != -1 || it.New != -1 || !s.Chc.Lines[1].Used {
		t.Fatalf("%+v", s)
	}
	s = executed(t, s, 1)
	stands(t, s, []int{0, 1}, []int{2, 3}, 4)
}

// When a store retires, the loads that have its word have it from memory.
func TestP66StoreRetiresAheadOfItsLoads(t *testing.T) {
	s := memoryCore(t, "save r1 r4 0", "save r3 r5 0", "load r6 r2 0", "load r6 r3 0", "load r5 r2 0")
	s = executed(t, s, 1, 2, 3, 4, 5, 0)
	loadedFrom(t, s, 3, 44, 1)
	loadedFrom(t, s, 4, 55, 2)
	s, events := cycle(t, s, impl.CorIn{})
	reports(t, events, 0, 1)
	loadedFrom(t, s, 3, 44, -1)
	loadedFrom(t, s, 4, 55, 2)
	loadedFrom(t, s, 5, 44, -1)
	if want := (impl.PlnEvent{Pc: 1, Word: s.Chc.Mem[1], Addr: 100, Data: 44}); events[1] != want {
		t.Fatalf("%+v, want %+v", events[1], want)
	}
	// The word is in the cache alone.
	if s.Chc.Mem[100] != 1000 || !s.Chc.Lines[1].Dirty || visible(s.Chc, 100) != 44 {
		t.Fatalf("%+v", s.Chc)
	}
	s, events = cycle(t, s, impl.CorIn{})
	reports(t, events, 2, 3)
	loadedFrom(t, s, 5, 44, -1)
	if events[1].Addr != -1 || events[1].Data != 0 || events[1].D != 6 || events[1].Val != 44 {
		t.Fatalf("%+v", events)
	}
}

// A valid load may name a store that is not executed yet. It is not squashed by that one.
func TestP66LoadThatNamesALaterStore(t *testing.T) {
	s := executed(t, memoryCore(t, "save r1 r4 0", "save r1 r5 0", "load r6 r2 0"), 3)
	for from, kept := range map[int]bool{-1: false, 0: false, 1: false, 2: true} {
		x := changedCore(s, func(x *impl.CorState) { x.Rob[3].From = from })
		coreValid(t, x, true)
		if got := executed(t, x, 2); slices.Contains(doneOnes(got), 3) != kept {
			t.Fatalf("%d: %+v", from, got)
		}
	}
}

// In user mode loads and stores meet in the frames of their pages.
func TestP66LoadsAndStoresInPages(t *testing.T) {
	p := with(userState(t, "addi r7 r0 1", "save r1 r4 1", "load r6 r2 1", "load r6 r3 1", "save r3 r4 1"), map[int]int{1: 35, 2: 83, 3: 50, 4: 44})
	p.Mem[36], p.Mem[51] = 1000, 2000
	s := launched(t, coreIn(p), 6)
	x := executed(t, s, 1, 2)
	loadedFrom(t, x, 2, 44, 1)
	if x.Rob[1].Addr != 36 || x.Rob[2].Addr != 36 {
		t.Fatalf("%+v", x)
	}
	x = executed(t, s, 2)
	loadedFrom(t, x, 2, 1000, -1)
	stands(t, executed(t, x, 1), []int{0, 1}, []int{2, 3}, 4)
	// Page 3 may be read, and not written.
	x = executed(t, s, 3, 4)
	loadedFrom(t, x, 3, 2000, -1)
	if it := x.Rob[4]; !it.Done || it.Why != impl.WhySave || it.Addr != -1 {
		t.Fatalf("%+v", x)
	}
}

// A store that has faulted has no word for a load, and a load that has faulted is not squashed by a store.
func TestP66Faults(t *testing.T) {
	s := memoryCore(t, "save r1 r4 0", "save r4 r4 -1", "load r4 r1 31", "load r6 r1 0")
	s.Nam.Vals[4] = 300
	s = executed(t, s, 2, 3)
	if s.Rob[2].Why != impl.WhySave || s.Rob[2].Addr != -1 || s.Rob[3].Why != 0 {
		t.Fatalf("%+v", s)
	}
	s = memoryCore(t, "save r1 r4 0", "load r6 r4 0", "add r5 r6 r6", "load r6 r1 0")
	s.Nam.Vals[4] = 300
	s = executed(t, s, 2, 4)
	if it := s.Rob[2]; it.Why != impl.WhyLoad || !it.Done || it.Next != 0 || it.Addr != -1 || s.Nam.Here[it.New] {
		t.Fatalf("%+v", s)
	}
	// What needs the value waits.
	if slices.Contains(readyOnes(s), 3) {
		t.Fatalf("%+v", s)
	}
	s = executed(t, s, 1)
	stands(t, s, []int{0, 1, 2, 3}, []int{4, 5}, 6)
}

// A fault squashes nothing, even if the prediction is not the next address.
func TestP97FaultsDoNotRestart(t *testing.T) {
	for _, line := range []string{"load r1 r4 0", "save r4 r1 0"} {
		s := startingWith(t, 0, map[int]int{4: 300}, "addi r7 r0 1", line)
		s.Gue.Slots[1] = impl.GueSlot{Used: true, Pc: 1, To: 30, Sure: 2}
		s = executed(t, launched(t, s, 3), 1)
		if it := s.Rob[1]; it.Took.Guess != 30 || it.Why == 0 || len(s.Rob) < 4 {
			t.Fatalf("%s: %+v", line, s)
		}
	}
}

// storing is a core whose entry 0 is an executed store of the value at an address; the text follows behind it, and enough of it is in flight.
func storing(t *testing.T, p impl.PlnState, at int, value int, cycles int) impl.CorState {
	t.Helper()
	p = with(p, map[int]int{1: at, 2: value})
	return executed(t, launched(t, coreIn(p), cycles), 0)
}

// A store to the address of an instruction that is in flight, as an entry or fetched, squashes what is left when it retires.
func TestP96StoreToTheAddressOfAnInstruction(t *testing.T) {
	lines := append([]string{"save r1 r2 0"}, nops(30)...)
	for at := range 20 {
		s := storing(t, impl.PlnNew(assembled(t, lines...)), at, 7777, 6)
		if len(s.Rob) != 8 || len(s.Fetched) != 4 {
			t.Fatalf("%+v", s)
		}
		x, events := cycle(t, s, impl.CorIn{})
		reports(t, events, 0)
		// The instruction itself may be stored to, and what is fetched only after that.
		if at == 0 || at > 11 {
			stands(t, x, []int{1, 2, 3, 4, 5, 6, 7, 8}, []int{9, 10, 11, 12}, 13)
		} else {
			stands(t, x, nil, []int{1, 2}, 3)
		}
		if visible(x.Chc, at) != 7777 {
			t.Fatalf("%+v", x)
		}
	}
}

// The physical address counts: page 5 is page 2.
func TestP96StoreToAPageOfInstructions(t *testing.T) {
	p := userState(t, "save r1 r2 0")
	p.Pc = 40
	p.Mem[40] = p.Mem[0]
	for _, at := range []int{42, 90} {
		x, events := cycle(t, storing(t, p, at, 0, 6), impl.CorIn{})
		reports(t, events, 40)
		stands(t, x, nil, []int{41, 42}, 43)
	}
	x, _ := cycle(t, storing(t, p, 28, 0, 6), impl.CorIn{})
	stands(t, x, []int{1, 2, 3, 4, 5, 6, 7, 8}, []int{49, 50, 51, 52}, 53)
}

// In user mode the words from CtlTab on, as many as there are pages, are the active page table; in supervisor mode there is none.
func TestP62StoreToThePageTable(t *testing.T) {
	for how := range 4 {
		for at := userTable - 2; at < userTable+18; at++ {
			p := userState(t, append([]string{"save r1 r2 0"}, nops(20)...)...)
			p.Ctl[impl.CtlHow] = how
			s := storing(t, p, at, p.Mem[at], 6)
			x, events := cycle(t, s, impl.CorIn{})
			reports(t, events, 0)
			if how%2 == 1 && at >= userTable && at < userTable+16 {
				stands(t, x, nil, []int{1, 2}, 3)
			} else {
				stands(t, x, []int{1, 2, 3, 4, 5, 6, 7, 8}, []int{9, 10, 11, 12}, 13)
			}
		}
	}
}

// A table whose end is outside of the memory does not begin at 0 again.
func TestP62TableAtTheEndOfTheMemory(t *testing.T) {
	for _, at := range []int{249, 250, 255, 14, 60} {
		p := userState(t, append([]string{"save r1 r2 0"}, nops(20)...)...)
		copy(p.Mem[250:], p.Mem[userTable:userTable+6])
		p.Mem[255] = 32 + 16 + at/16
		p.Ctl[impl.CtlTab] = 250
		addr := 5*16 + at%16
		s := storing(t, p, addr, visible(impl.ChcNew(p.Mem), at), 6)
		x, events := cycle(t, s, impl.CorIn{})
		if events[0].Addr != at {
			t.Fatalf("%+v", events)
		}
		if at >= 250 {
			stands(t, x, nil, []int{1, 2}, 3)
		} else {
			stands(t, x, []int{1, 2, 3, 4, 5, 6, 7, 8}, []int{9, 10, 11, 12}, 13)
		}
		for _, in := range []int{at, (at + 6) % 256} {
			x, _ := cycle(t, s, impl.CorIn{Lay: true, At: in, N: visible(s.Chc, in)})
			if in >= 250 {
				stands(t, x, nil, []int{0, 1}, 2)
			}
		}
	}
}

// lying is a cycle with an external write of the word that is there already, which is observed all the same.
func lying(s impl.CorState, at int) impl.CorIn {
	return impl.CorIn{Lay: true, At: at, N: visible(s.Chc, at)}
}

// An external write to the address of an entry squashes from it on, and one to the address of a fetched instruction drops all fetched ones.
func TestP61ExternalWriteToAnInstruction(t *testing.T) {
	s := starting(t, 6, nops(30)...)
	for at := range 20 {
		for _, in := range []impl.CorIn{lying(s, at), {Lay: true, At: at, N: 7777}} {
			x, events := cycle(t, s, in)
			reports(t, events)
			switch {
			case at < 8:
				stands(t, x, []int{0, 1, 2, 3, 4, 5, 6, 7}[:at], []int{at, at + 1}, at+2)
			case at < 12:
				stands(t, x, []int{0, 1, 2, 3, 4, 5, 6, 7}, []int{8, 9}, 10)
			default:
				stands(t, x, []int{0, 1, 2, 3, 4, 5, 6, 7}, []int{8, 9, 10, 11}, 12)
			}
			if s.Chc.Mem[at] != 0 || x.Chc.Mem[at] != in.N {
				t.Fatalf("%+v", x.Chc)
			}
		}
	}
}

// Of several instructions from the address the oldest one counts.
func TestP61ExternalWriteToALoop(t *testing.T) {
	s := starting(t, 6, "addi r1 r0 1", "addi r2 r0 1", "jump r0 -2")
	if s.Rob[1].Took.At != 1 || s.Rob[3].Took.At != 1 || s.Fetched[1].At != 1 {
		t.Fatalf("%+v", s)
	}
	x, _ := cycle(t, s, lying(s, 1))
	stands(t, x, []int{0}, []int{1, 2}, 1)
	x, _ = cycle(t, s, lying(s, 2))
	stands(t, x, []int{0, 1}, []int{2, 1}, 2)
}

// A failed fetch among the dropped ones is made again, or not if it is elsewhere.
func TestP61ExternalWriteClearsStop(t *testing.T) {
	s := launched(t, busyCore(t), 1)
	x, _ := cycle(t, s, lying(s, 9))
	stands(t, x, []int{0, 1, 2, 3, 4, 5, 6, 7}, []int{8, 9}, 260)
	if x.Stop {
		t.Fatalf("%+v", x)
	}
	x, _ = cycle(t, s, impl.CorIn{Lay: true, At: 9, N: 0})
	stands(t, x, []int{0, 1, 2, 3, 4, 5, 6, 7}, []int{8, 9}, 10)
}

// A load that has read the cache is squashed, one that has a store's word is not.
func TestP61ExternalWriteToALoadedWord(t *testing.T) {
	lines := []string{"load r6 r2 0", "save r1 r4 0", "load r5 r2 0", "load r6 r3 0", "load r6 r3 0"}
	s := executed(t, memoryCore(t, lines...), 4, 2, 3)
	x, _ := cycle(t, s, lying(s, 100))
	stands(t, x, []int{0, 1, 2, 3, 4, 5, 6, 7}, []int{8, 9, 10, 11}, 12)
	loadedFrom(t, x, 3, 44, 2)
	x, _ = cycle(t, s, impl.CorIn{Lay: true, At: 200, N: 7})
	stands(t, x, []int{0, 1, 2, 3}, []int{4, 5}, 6)
	loadedFrom(t, executed(t, launched(t, x, 1), 8), 8, 7, -1)
	// Another word of the line does not matter, but the line is evicted.
	x, _ = cycle(t, s, impl.CorIn{Lay: true, At: 201, N: 7})
	stands(t, x, []int{0, 1, 2, 3, 4, 5, 6, 7}, []int{8, 9, 10, 11}, 12)
	if !s.Chc.Lines[2].Used || x.Chc.Lines[2].Used {
		t.Fatalf("%+v", x.Chc)
	}
}

// When the store has retired, its word is one that was read from the memory.
func TestP61ExternalWriteBehindAStore(t *testing.T) {
	s := memoryCore(t, "save r1 r4 0", "load r5 r2 0", "load r6 r3 0")
	s = executed(t, s, 1, 2, 3, 0)
	x, events := cycle(t, s, impl.CorIn{Lay: true, At: 100, N: 8})
	reports(t, events, 0, 1)
	loadedFrom(t, x, 2, 44, -1)
	x, events = cycle(t, x, impl.CorIn{Lay: true, At: 100, N: 9})
	reports(t, events)
	stands(t, x, nil, []int{2, 3}, 4)
}

// In user mode an external write to the page table squashes all, and restarts at the oldest instruction.
func TestP61ExternalWriteToThePageTable(t *testing.T) {
	for how := range 4 {
		p := userState(t, nops(20)...)
		p.Ctl[impl.CtlHow] = how
		p.Pc = 3
		for _, cycles := range []int{0, 1, 2, 6} {
			s := launched(t, coreIn(p), cycles)
			for at := userTable - 1; at < userTable+17; at++ {
				x, events := cycle(t, s, lying(s, at))
				reports(t, events)
				if how%2 == 1 && at >= userTable && at < userTable+16 {
					stands(t, x, nil, []int{3, 4}, 5)
				} else if want, _ := cycle(t, s, impl.CorIn{}); !sameCores(x, want) {
					t.Fatalf("mode %d, address %d: %+v, want %+v", how, at, x, want)
				}
			}
		}
	}
}

// The page of the next instructions changes its frame.
func TestP61ExternalWriteMovesAPage(t *testing.T) {
	s := startingUser(t, 6, "addi r1 r0 1")
	s, _ = cycle(t, s, impl.CorIn{Lay: true, At: userTable, N: 32 + 16 + 2})
	if f := s.Fetched[0]; f.Pc != 0 || f.At != 32 {
		t.Fatalf("%+v", s)
	}
	s, _ = cycle(t, s, impl.CorIn{Lay: true, At: userTable, N: 0})
	if f := s.Fetched[0]; f.Pc != 0 || f.Why != impl.WhyTake || !s.Stop {
		t.Fatalf("%+v", s)
	}
	s, _ = cycle(t, s, impl.CorIn{Lay: true, At: userTable, N: 16})
	if f := s.Fetched[0]; f.Pc != 0 || f.At != 0 || s.Stop {
		t.Fatalf("%+v", s)
	}
}

// An external write that is neither in flight nor in the table changes the memory alone.
func TestP61ExternalWriteElsewhere(t *testing.T) {
	s := startingUser(t, 6, nops(20)...)
	for at := range impl.MemMany {
		if at < 12 || at >= userTable && at < userTable+16 {
			continue
		}
		x, _ := cycle(t, s, impl.CorIn{Lay: true, At: at, N: 7777})
		want := changedCore(s, func(s *impl.CorState) { s.Chc = impl.ChcLay(s.Chc, at, 7777) })
		if !sameCores(x, want) {
			t.Fatalf("%d: %+v", at, x)
		}
	}
}

// headCore has an instruction at its head that is executed only there, and younger ones in flight, of which those that can be executed are.
func headCore(t *testing.T, how int, line string) impl.CorState {
	t.Helper()
	p := with(userState(t, "addi r7 r0 9", line, "addi r5 r0 7", "save r2 r4 3", "load r6 r2 3", "addi r5 r5 1", "wait"), map[int]int{1: 33, 2: 40, 4: 44})
	p.Ctl = []int{60, 61, userTable, how, 64}
	p.Mem[33] = 333
	return executed(t, launched(t, coreIn(p), 6), 2, 3, 4, 5, 0)
}

// Of the instructions that are executed at the head, each squashes those behind it, except for a CodGet.
func TestP62InstructionsAtTheHead(t *testing.T) {
	user, supervisor := []int{1, 3}, []int{0, 2}
	for _, x := range []struct {
		line  string
		hows  []int
		next  int
		event impl.PlnEvent
		ctl   map[int]int
	}{
		{"wait", user, 2, impl.PlnEvent{Addr: -1}, nil},
		{"wait", supervisor, 2, impl.PlnEvent{Addr: -1}, nil},
		{"swap r3 r1 r4", user, 2, impl.PlnEvent{D: 3, Val: 333, Addr: 33, Data: 44}, nil},
		{"swap r1 r1 r1", supervisor, 2, impl.PlnEvent{D: 1, Val: 333, Addr: 33, Data: 33}, nil},
		{"swap r0 r1 r4", supervisor, 2, impl.PlnEvent{Addr: 33, Data: 44}, nil},
		{"back", []int{0}, 60, impl.PlnEvent{Addr: -1}, map[int]int{3: 0}},
		{"back", []int{2}, 60, impl.PlnEvent{Addr: -1}, map[int]int{3: 1}},
		{"set r1 0", supervisor, 2, impl.PlnEvent{Addr: -1}, map[int]int{0: 33}},
		{"set r1 1", supervisor, 2, impl.PlnEvent{Addr: -1}, map[int]int{1: 33}},
		{"set r1 2", supervisor, 2, impl.PlnEvent{Addr: -1}, map[int]int{2: 33}},
		{"set r1 3", supervisor, 2, impl.PlnEvent{Addr: -1}, map[int]int{3: 0}},
		{"set r7 3", supervisor, 2, impl.PlnEvent{Addr: -1}, map[int]int{3: 0}},
		{"set r1 4", supervisor, 2, impl.PlnEvent{Addr: -1}, map[int]int{4: 33}},
	} {
		for _, how := range x.hows {
			s := headCore(t, how, x.line)
			done(t, s, 0, 2, 3, 4, 5)
			y, events := cycle(t, s, impl.CorIn{})
			reports(t, events, 0, 1)
			event := x.event
			event.Pc, event.Word = 1, s.Rob[1].Took.Word
			ctl := slices.Clone(s.Ctl)
			for f, value := range x.ctl {
				ctl[f] = value
			}
			if events[1] != event || !slices.Equal(y.Ctl, ctl) {
				t.Fatalf("%s in mode %d: %+v, %v", x.line, how, events, y.Ctl)
			}
			stands(t, y, nil, []int{x.next, x.next + 1}, x.next+2)
			if event.Addr >= 0 && (!y.Chc.Lines[event.Addr/4%4].Dirty || y.Chc.Mem[event.Addr] != 333) {
				t.Fatalf("%s: %+v", x.line, y.Chc)
			}
		}
	}
}

// A CodGet squashes nothing if its predicted next address is right, and another instruction may retire in the cycle.
func TestP62GetSquashesNothing(t *testing.T) {
	lines := []string{"get r1 4", "addi r2 r1 1", "get r0 3", "get r3 0", "get r3 2", "addi r4 r3 0"}
	p := impl.PlnNew(assembled(t, lines...))
	p.Ctl = []int{60, 61, 62, 2, 64}
	s := launched(t, coreIn(p), 2)
	stands(t, s, []int{0, 1}, []int{2, 3}, 4)
	s, events := cycle(t, s, impl.CorIn{Picks: []int{0}})
	reports(t, events, 0)
	if want := (impl.PlnEvent{Word: p.Mem[0], D: 1, Val: 64, Addr: -1}); events[0] != want {
		t.Fatalf("%+v", events)
	}
	// What has waited for the value is executed in the same cycle.
	stands(t, s, []int{1, 2, 3}, []int{4, 5}, 6)
	done(t, s, 1)
	s, events = cycle(t, s, impl.CorIn{})
	reports(t, events, 1, 2)
	if events[0].Val != 65 || events[1].D != 0 || events[1].Val != 0 {
		t.Fatalf("%+v", events)
	}
	s, events = cycle(t, s, impl.CorIn{})
	reports(t, events, 3, 4)
	if events[0].Val != 60 || events[1].Val != 62 {
		t.Fatalf("%+v", events)
	}
	if s.Rob[0].Took.Pc != 5 {
		t.Fatalf("%+v", s)
	}
}

func TestP62MispredictedGet(t *testing.T) {
	s := starting(t, 0, "get r1 4", "addi r2 r1 1")
	s.Gue.Slots[0] = impl.GueSlot{Used: true, Pc: 0, To: 30, Sure: 2}
	s = launched(t, s, 2)
	stands(t, s, []int{0, 1}, []int{31, 32}, 33)
	s, events := cycle(t, s, impl.CorIn{})
	reports(t, events, 0)
	stands(t, s, nil, []int{1, 2}, 3)
	if !s.Gue.Slots[0].Used || s.Gue.Slots[0].Sure != 2 {
		t.Fatalf("a CodGet is not learned: %+v", s.Gue)
	}
}

// All others squash what follows even if their predicted next address is right, and are not learned.
func TestP62PredictedBack(t *testing.T) {
	s := starting(t, 0, "back", "addi r2 r1 1")
	s.Ctl[impl.CtlWas] = 30
	s.Gue.Slots[0] = impl.GueSlot{Used: true, Pc: 0, To: 30, Sure: 2}
	s = launched(t, s, 2)
	stands(t, s, []int{0, 1}, []int{31, 32}, 33)
	s, events := cycle(t, s, impl.CorIn{})
	reports(t, events, 0)
	stands(t, s, nil, []int{30, 31}, 32)
	if s.Gue.Slots[0].Sure != 2 {
		t.Fatalf("%+v", s.Gue)
	}
}

// An entry is executed as it was fetched, and in a valid core the memory may have another word there.
func TestP62EntriesAreNotFetchedAgain(t *testing.T) {
	for _, line := range []string{"get r1 4", "set r2 4", "sys 9", "swap r1 r0 r0", "wait"} {
		s := starting(t, 2, line)
		s.Chc = impl.ChcLay(s.Chc, 0, 65535)
		x, events := cycle(t, s, impl.CorIn{})
		reports(t, events, 0)
		if events[0].Word != s.Rob[0].Took.Word || events[0].Why == impl.WhyCode {
			t.Fatalf("%s: %+v, %+v", line, events, x)
		}
	}
}

// trapsTo fails the test unless a cycle ends with a trap of that cause at that address, of the word -1 if there is none, and everything behind it is squashed.
func trapsTo(t *testing.T, s impl.CorState, in impl.CorIn, pc int, w int, why int) (impl.CorState, []impl.PlnEvent) {
	t.Helper()
	x, events := cycle(t, s, in)
	if len(events) == 0 || events[len(events)-1] != (impl.PlnEvent{Pc: pc, Word: w, Why: why, Addr: -1}) {
		t.Fatalf("%+v, want a trap with cause %d at %d", events, why, pc)
	}
	ctl := slices.Clone(s.Ctl)
	ctl[impl.CtlWas], ctl[impl.CtlWhy], ctl[impl.CtlHow] = pc, why, []int{0, 2, 0, 2}[ctl[impl.CtlHow]]
	if !slices.Equal(x.Ctl, ctl) || len(x.Rob) != 0 {
		t.Fatalf("%+v, want the control registers %v", x, ctl)
	}
	stands(t, x, nil, []int{8, 9}, 10)
	return x, events
}

func TestP97TrapsOfEachCause(t *testing.T) {
	for _, x := range []struct {
		line  string
		hows  []int
		why   int
		ready bool
	}{
		{"word 65535", modes, impl.WhyCode, false},
		{"load r6 r1 31", supervisorModes, impl.WhyLoad, true},
		{"load r6 r4 20", userModes, impl.WhyLoad, true},
		{"save r1 r4 31", modes, impl.WhySave, true},
		{"save r4 r4 4", userModes, impl.WhySave, true},
		{"swap r6 r1 r4", supervisorModes, impl.WhySave, false},
		{"swap r6 r5 r4", userModes, impl.WhySave, false},
		{"sys 0", modes, impl.WhySys, false},
		{"sys 511", modes, impl.WhySys + 16*511, false},
		{"back", userModes, impl.WhyMay, false},
		{"get r6 3", userModes, impl.WhyMay, false},
		{"set r4 4", userModes, impl.WhyMay, false},
	} {
		for _, how := range x.hows {
			p := with(userState(t, "addi r7 r0 9", x.line, "addi r5 r0 7", "save r2 r4 3", "load r6 r2 3", "addi r5 r5 1", "wait"), map[int]int{1: 256, 2: 40, 4: 44, 5: 50})
			p.Ctl[impl.CtlHow] = how
			s := launched(t, coreIn(p), 6)
			for _, no := range []int{2, 3, 4, 5} {
				if len(s.Rob) > 4 && s.Rob[2].Took.Pc == 2 {
					s = executed(t, s, no)
				}
			}
			if x.ready {
				s = executed(t, s, 1)
			}
			s = executed(t, s, 0)
			y, events := trapsTo(t, s, impl.CorIn{}, 1, p.Mem[1], x.why)
			reports(t, events, 0, 1)
			if got := impl.CorAbs(y); got.Regs[7] != 9 || got.Regs[5] != 50 || got.Regs[6] != 0 || !slices.Equal(got.Mem, p.Mem) {
				t.Fatalf("%s: %+v", x.line, got)
			}
		}
	}
}

func TestP97FetchesWithoutATranslation(t *testing.T) {
	for how, places := range [][]int{{256, 65535}, {64, 79, 256, 65535}, {256, 65535}, {64, 79, 256, 65535}} {
		for _, pc := range places {
			p := userState(t, "save r1 r4 31")
			p.Pc, p.Ctl[impl.CtlHow] = pc, how
			s := launched(t, coreIn(p), 1)
			want := impl.FchItem{Pc: pc, Word: -1, At: -1, Why: impl.WhyTake, Guess: (pc + 1) % 65536}
			if stands(t, s, nil, []int{pc}, pc); !s.Stop || s.Fetched[0] != want {
				t.Fatalf("%+v", s)
			}
			s, _ = trapsTo(t, launched(t, s, 1), impl.CorIn{Picks: []int{0, 0}}, pc, -1, impl.WhyTake)
			if s.Stop {
				t.Fatalf("%+v", s)
			}
		}
	}
}

// Behind a trap nothing retires, even if it is executed.
func TestP97NothingRetiresBehindATrap(t *testing.T) {
	for _, line := range []string{"word 65535", "sys 7", "load r6 r1 0", "save r1 r4 0", "swap r6 r1 r4"} {
		p := with(impl.PlnNew(assembled(t, line, "addi r5 r0 7", "save r2 r4 3")), map[int]int{1: 256})
		s, events := cycle(t, launched(t, coreIn(p), 1), impl.CorIn{})
		reports(t, events)
		// The entry at the head traps now, or it is executed, and the next one with it.
		s, events = cycle(t, s, impl.CorIn{Picks: []int{0, 0}})
		if len(events) == 0 {
			done(t, s, 0, 1)
			s, events = cycle(t, s, impl.CorIn{})
		}
		reports(t, events, 0)
		stands(t, s, nil, []int{8, 9}, 10)
	}
}

// A failed fetch stops the fetching until something is squashed.
func TestP97FailedFetch(t *testing.T) {
	s := starting(t, 0)
	s.Pc = 254
	s, _ = cycle(t, s, impl.CorIn{})
	stands(t, s, nil, []int{254, 255}, 256)
	if s.Stop {
		t.Fatalf("%+v", s)
	}
	s, _ = cycle(t, s, impl.CorIn{})
	lost := impl.FchItem{Pc: 256, Word: -1, At: -1, Why: impl.WhyTake, Guess: 257}
	if stands(t, s, []int{0, 1}, []int{256}, 256); !s.Stop || s.Fetched[0] != lost {
		t.Fatalf("%+v", s)
	}
	s, _ = cycle(t, s, impl.CorIn{Picks: []int{0, 0}})
	if stands(t, s, []int{0, 1, 2}, nil, 256); !s.Stop || s.Rob[2].Took != lost || s.Rob[2].Why != impl.WhyTake {
		t.Fatalf("%+v", s)
	}
	s, events := cycle(t, s, impl.CorIn{})
	reports(t, events, 254, 255)
	stands(t, s, []int{2}, nil, 256)
	s, _ = trapsTo(t, s, impl.CorIn{}, 256, -1, impl.WhyTake)
	if s.Stop {
		t.Fatalf("%+v", s)
	}
}

// A mispredicted branch ahead of a failed fetch lets the fetching go on.
func TestP97FailedFetchBehindABranch(t *testing.T) {
	s := starting(t, 0, "wait")
	s.Chc = impl.ChcLay(s.Chc, 255, impl.CodWord(impl.CodInst{Kind: impl.CodEq, N: 8}))
	s.Pc = 255
	s = launched(t, s, 2)
	if stands(t, s, []int{0, 1}, nil, 256); !s.Stop {
		t.Fatalf("%+v", s)
	}
	s = executed(t, s, 0)
	stands(t, s, []int{0}, []int{264}, 264)
	lost := impl.FchItem{Pc: 264, Word: -1, At: -1, Why: impl.WhyTake, Guess: 265}
	if !s.Stop || s.Fetched[0] != lost {
		t.Fatalf("%+v", s)
	}
}

func TestP60InterruptInUserMode(t *testing.T) {
	for _, how := range userModes {
		p := with(userState(t, nops(20)...), map[int]int{1: 5})
		p.Pc, p.Ctl[impl.CtlHow] = 3, how
		for cycles := range 7 {
			s := launched(t, coreIn(p), cycles)
			for len(readyOnes(s)) > 4 {
				s, _ = cycle(t, s, impl.CorIn{Picks: []int{1}})
			}
			for _, picks := range [][]int{nil, {0}, {7, 3}} {
				x, events := trapsTo(t, s, impl.CorIn{Ring: true, Picks: picks}, 3, -1, impl.WhyRing)
				reports(t, events, 3)
				if !slices.Equal(visibleWords(x.Chc), p.Mem) || impl.CorAbs(x).Regs[1] != 5 {
					t.Fatalf("%+v", x)
				}
			}
		}
	}
}

// What is ready to retire, to trap or to be executed at the head waits for the next time.
func TestP60InterruptAheadOfAll(t *testing.T) {
	for _, line := range []string{"addi r1 r0 4", "save r1 r1 20", "word 65535", "sys 4", "swap r1 r1 r1", "get r1 3", "load r1 r1 -1"} {
		s := launched(t, coreIn(userState(t, line)), 2)
		if len(readyOnes(s)) == 2 {
			s = executed(t, s, 0)
		}
		_, events := trapsTo(t, s, impl.CorIn{Ring: true}, 0, -1, impl.WhyRing)
		reports(t, events, 0)
	}
}

// With an external write in the same cycle, the interrupt is at the address that the write leaves oldest.
func TestP60InterruptWithAnExternalWrite(t *testing.T) {
	s := startingUser(t, 6, nops(20)...)
	for _, at := range []int{0, 3, 9, 60, userTable, userTable + 9} {
		x, events := trapsTo(t, s, impl.CorIn{Ring: true, Lay: true, At: at, N: 77}, 0, -1, impl.WhyRing)
		reports(t, events, 0)
		if x.Chc.Mem[at] != 77 {
			t.Fatalf("%+v", x)
		}
	}
	// The oldest instruction has lost its page, and is interrupted all the same.
	s = startingUser(t, 2)
	_, events := trapsTo(t, s, impl.CorIn{Ring: true, Lay: true, At: userTable, N: 0}, 0, -1, impl.WhyRing)
	reports(t, events, 0)
}

func TestP60InterruptInSupervisorMode(t *testing.T) {
	ringing := 0
	for _, s := range reached() {
		in := impl.CorIn{Picks: []int{1, 0}}
		want, wantEvents := cycle(t, s, in)
		in.Ring = true
		x, events := cycle(t, s, in)
		if s.Ctl[impl.CtlHow]%2 == 1 {
			ringing++
			p := impl.CorAbs(s)
			if len(events) != 1 || events[0] != (impl.PlnEvent{Pc: p.Pc, Word: -1, Why: impl.WhyRing, Addr: -1}) || len(x.Rob) != 0 || x.Ctl[impl.CtlHow]%2 != 0 || !slices.Equal(visibleWords(x.Chc), p.Mem) {
				t.Fatalf("%+v: %+v, %v", s, x, events)
			}
		} else if !sameCores(x, want) || !slices.Equal(events, wantEvents) {
			t.Fatalf("%+v: %+v, %v", s, x, events)
		}
	}
	if ringing < 50 || ringing > len(reached())-50 {
		t.Fatal("interrupts in user mode:", ringing)
	}
}

// Addresses wrap around behind the greatest one: of the next instruction, of branches, and of loads and stores.
func TestP98GreatestAddress(t *testing.T) {
	for _, x := range []struct {
		line      string
		pc        int
		next, val int
	}{
		{"add r1 r2 r2", 65535, 0, 4},
		{"lui r1 1", 65535, 0, 128},
		{"eq r0 r0 5", 65535, 5, 0},
		{"eq r0 r0 -5", 3, 65535, 0},
		{"lt r0 r2 7", 65530, 2, 0},
		{"lt r0 r2 -32", 31, 0, 0},
		{"lt r2 r0 7", 65535, 0, 0},
		{"jump r1 0", 65535, 0, 0},
		{"jump r1 -1", 65535, 65535, 0},
		{"jump r1 200", 65534, 199, 65535},
		{"call r1 r2 -3", 65535, 65535, 0},
		{"call r1 r3 1", 9, 0, 10},
		{"addi r1 r3 4", 65535, 0, 3},
		{"load r1 r3 4", 65535, 0, 333},
		{"load r1 r2 1", 65535, 0, 333},
		{"save r3 r2 1", 65535, 0, 0},
	} {
		p := with(impl.PlnNew(assembled(t, x.line)), map[int]int{2: 2, 3: 65535})
		p.Mem[3] = 333
		s := moved(launched(t, coreIn(p), 2), x.pc)
		s, _ = cycle(t, s, impl.CorIn{Picks: []int{0}})
		it := s.Rob[0]
		if !it.Done || it.Why != 0 || it.Next != x.next || it.Took.Guess != x.next || it.D > 0 && s.Nam.Vals[it.New] != x.val {
			t.Fatalf("%s at %d: %+v", x.line, x.pc, s)
		}
		s, events := cycle(t, s, impl.CorIn{})
		reports(t, events, x.pc)
		if p := impl.CorAbs(s); p.Pc != x.next {
			t.Fatalf("%s at %d: %+v", x.line, x.pc, p)
		}
	}
}

// A call beyond the memory fails to fetch there, and behind the greatest address would go on at 0.
func TestP97CallToTheGreatestAddress(t *testing.T) {
	s := executed(t, startingWith(t, 2, map[int]int{1: 65535}, "call r0 r1 0", "save r0 r1 20"), 0)
	want := impl.FchItem{Pc: 65535, Word: -1, At: -1, Why: impl.WhyTake}
	if stands(t, s, []int{0}, []int{65535}, 65535); s.Fetched[0] != want || !s.Stop {
		t.Fatalf("%+v", s)
	}
	s, events := cycle(t, s, impl.CorIn{Picks: []int{0, 0}})
	reports(t, events, 0)
	s, _ = trapsTo(t, s, impl.CorIn{}, 65535, -1, impl.WhyTake)
	if visible(s.Chc, 20) != 0 {
		t.Fatalf("%+v", s)
	}
	s = executed(t, startingWith(t, 2, map[int]int{1: 65535}, "call r2 r1 1", "save r0 r1 20"), 0)
	stands(t, s, []int{0}, []int{0, 1}, 2)
}
