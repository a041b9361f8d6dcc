package tests

import (
	"math"
	"slices"
	"testing"

	"loop.example/harbinger/impl"
)

// copiedCore shares no memory with the state.
func copiedCore(s impl.CorState) impl.CorState {
	s.Fetched = slices.Clone(s.Fetched)
	s.Gue = copiedGuesses(s.Gue)
	s.Nam = copiedNames(s.Nam)
	s.Rob = slices.Clone(s.Rob)
	s.Chc = copiedCache(s.Chc)
	s.Ctl = slices.Clone(s.Ctl)
	return s
}

// sameCores reports whether two states are equal, where a nil slice and an empty one are the same.
func sameCores(a, b impl.CorState) bool {
	return a.Pc == b.Pc && a.Stop == b.Stop && a.Nos == b.Nos && slices.Equal(a.Fetched, b.Fetched) && slices.Equal(a.Rob, b.Rob) && slices.Equal(a.Ctl, b.Ctl) && sameGuesses(a.Gue, b.Gue) && sameNames(a.Nam, b.Nam) && sameCaches(a.Chc, b.Chc)
}

// changedCore is a copy with the change.
func changedCore(s impl.CorState, change func(*impl.CorState)) impl.CorState {
	out := copiedCore(s)
	change(&out)
	return out
}

// noCore reports whether a state is the zero value.
func noCore(s impl.CorState) bool {
	return sameCores(s, impl.CorState{})
}

// coreIn is a core in that architectural state with nothing in flight.
func coreIn(p impl.PlnState) impl.CorState {
	s := impl.CorNew(p.Mem)
	s.Pc = p.Pc
	s.Ctl = slices.Clone(p.Ctl)
	copy(s.Nam.Vals, p.Regs)
	return s
}

// conserved fails the test unless every physical register is there exactly once.
func conserved(t *testing.T, s impl.CorState) {
	t.Helper()
	all := slices.Concat(s.Nam.Map, s.Nam.Free)
	for _, it := range s.Rob {
		if it.D > 0 {
			all = append(all, it.Old)
		}
	}
	slices.Sort(all)
	for p := range impl.PhyMany {
		if len(all) != impl.PhyMany || all[p] != p {
			t.Fatalf("physical registers %v of %+v", all, s)
		}
	}
}

// coreValid fails the test unless CorOk has the wanted result, and leaves the state as it is.
func coreValid(t *testing.T, s impl.CorState, want bool) {
	t.Helper()
	before := copiedCore(s)
	if got := impl.CorOk(s); got != want || !sameCores(s, before) {
		t.Fatalf("CorOk(%+v) = %t", before, got)
	}
}

// inputValid fails the test unless InOk has the wanted result.
func inputValid(t *testing.T, in impl.CorIn, want bool) {
	t.Helper()
	if got := impl.InOk(in); got != want {
		t.Fatalf("InOk(%+v) = %t", in, got)
	}
}

// cycle executes one cycle of a valid core, and fails the test unless it comes to just what the model comes to.
func cycle(t *testing.T, s impl.CorState, in impl.CorIn) (impl.CorState, []impl.PlnEvent) {
	t.Helper()
	before, picks := copiedCore(s), slices.Clone(in.Picks)
	x, events := impl.CorStep(s, in)
	if !sameCores(s, before) || !slices.Equal(in.Picks, picks) {
		t.Fatalf("CorStep changes its arguments %+v, %+v", before, in)
	}
	if !impl.CorOk(x) || len(events) > 2 {
		t.Fatalf("CorStep(%+v, %+v) =\n%+v, %v", s, in, x, events)
	}
	want, wantEvents := modelled(s, in)
	if !sameCores(x, want) || !slices.Equal(events, wantEvents) {
		t.Fatalf("CorStep(%+v, %+v) =\n%+v, %v\nwant %+v, %v", s, in, x, events, want, wantEvents)
	}
	conserved(t, x)
	return x, events
}

// assembled has the words of a text.
func assembled(t *testing.T, lines ...string) []int {
	t.Helper()
	words, wrong := impl.TxtRead(lines)
	if wrong != 0 {
		t.Fatalf("line %d of %q", wrong, lines)
	}
	return words
}

// launched is a core that has run ahead of its first instruction for some cycles, without executing any.
func launched(t *testing.T, s impl.CorState, cycles int) impl.CorState {
	t.Helper()
	for range cycles {
		s, _ = cycle(t, s, impl.CorIn{})
	}
	return s
}

// entry has the index of the one with that sequence number.
func entry(t *testing.T, s impl.CorState, no int) int {
	t.Helper()
	for k, it := range s.Rob {
		if it.No == no {
			return k
		}
	}
	t.Fatalf("no entry %d in %+v", no, s)
	return -1
}

// executing is a cycle that executes the entry with that sequence number. It expects that none retires.
func executing(t *testing.T, s impl.CorState, no int) impl.CorIn {
	t.Helper()
	pick := slices.Index(readyOnes(s), entry(t, s, no))
	if pick < 0 {
		t.Fatalf("entry %d of %+v is not ready", no, s)
	}
	return impl.CorIn{Picks: []int{pick}}
}

// executed is the core behind cycles that execute these entries, one in each.
func executed(t *testing.T, s impl.CorState, nos ...int) impl.CorState {
	t.Helper()
	for _, no := range nos {
		s, _ = cycle(t, s, executing(t, s, no))
	}
	return s
}

// busyProgram has instructions that come into every state that an entry may be in.
var busyProgram = []string{
	"addi r6 r0 1",
	"addi r1 r0 20",
	"save r1 r1 0",
	"load r2 r1 0",
	"load r3 r0 21",
	"load r4 r3 -1",
	"add r1 r2 r6",
	"get r5 4",
	"word 65535",
	"jump r7 250",
	"word 0", "word 0", "word 0", "word 0", "word 0", "word 0", "word 0", "word 0", "word 0", "word 0", "word 0",
	"word 30000",
}

// busyCore has a full reorder buffer: the first entry is ready, but not executed; of the others one has stored, one has that word, one has a word from the cache, one has faulted, and two wait, one for an operand and one for the head. Behind them wait a word that is no instruction, a jump and a failed fetch.
func busyCore(t *testing.T) impl.CorState {
	t.Helper()
	s := launched(t, impl.CorNew(assembled(t, busyProgram...)), 6)
	return executed(t, s, 1, 2, 3, 4, 5)
}

// barrenCore has the word that is no instruction, the jump and the failed fetch as entries.
func barrenCore(t *testing.T) impl.CorState {
	t.Helper()
	words := assembled(t, "jump r0 10", "addi r3 r3 1", "addi r3 r3 1", "addi r3 r3 1", "addi r3 r3 1", "addi r3 r3 1", "addi r3 r3 1", "addi r3 r3 1", "addi r3 r3 1", "addi r3 r3 1", "addi r3 r3 1", "word 65535", "jump r7 250")
	return executed(t, launched(t, impl.CorNew(words), 4), 0)
}

// walkingCore has entries and fetched instructions, and goes on fetching.
func walkingCore(t *testing.T) impl.CorState {
	t.Helper()
	return launched(t, impl.CorNew(assembled(t, "add r1 r2 r3", "add r2 r1 r1", "add r1 r2 r1", "save r1 r2 0", "eq r1 r2 5", "mul r1 r1 r1")), 3)
}

// coreField is a number of a core, and the least and the greatest value that it may have while all others stay.
type coreField struct {
	name     string
	place    func(*impl.CorState) *int
	least    int
	greatest int
}

// listFields are the numbers of a list, each of which has its limits.
func listFields(name string, list func(*impl.CorState) []int, s impl.CorState, limits func(k int) (int, int)) []coreField {
	out := []coreField{}
	for k := range list(&s) {
		least, greatest := limits(k)
		out = append(out, coreField{name, func(s *impl.CorState) *int { return &list(s)[k] }, least, greatest})
	}
	return out
}

// partFields are the numbers of a valid core outside of its entries and fetched instructions.
func partFields(s impl.CorState) []coreField {
	fixed := func(list []int) func(int) (int, int) {
		return func(k int) (int, int) { return list[k], list[k] }
	}
	nos, pc := 0, coreField{"Pc", func(s *impl.CorState) *int { return &s.Pc }, s.Pc, s.Pc}
	if len(s.Rob) > 0 {
		nos = s.Rob[len(s.Rob)-1].No + 1
	}
	if s.Stop || len(s.Rob)+len(s.Fetched) == 0 {
		pc.least, pc.greatest = 0, 65535
	}
	out := []coreField{pc, {"Nos", func(s *impl.CorState) *int { return &s.Nos }, nos, math.MaxInt}}
	out = append(out, listFields("Ctl", func(s *impl.CorState) []int { return s.Ctl }, s, func(k int) (int, int) {
		if k == impl.CtlHow {
			return 0, 3
		}
		return 0, 65535
	})...)
	out = append(out, listFields("Nam.Vals", func(s *impl.CorState) []int { return s.Nam.Vals }, s, func(p int) (int, int) {
		if p == 0 {
			return 0, 0
		}
		return 0, 65535
	})...)
	out = append(out, listFields("Nam.Map", func(s *impl.CorState) []int { return s.Nam.Map }, s, fixed(s.Nam.Map))...)
	return append(out, listFields("Nam.Free", func(s *impl.CorState) []int { return s.Nam.Free }, s, fixed(s.Nam.Free))...)
}

// entryFields are the numbers of a valid core in the entry with that index.
func entryFields(s impl.CorState, k int) []coreField {
	it := s.Rob[k]
	out := []coreField{}
	for _, f := range append(fetchedFields(it), ownFields(it)...) {
		x := coreField{f.name, func(s *impl.CorState) *int { return f.place(&s.Rob[k]) }, f.least, f.greatest}
		switch f.name {
		case "A", "B", "New", "Old", "Next":
			x.least, x.greatest = *f.place(&it), *f.place(&it)
		case "Took.Pc":
			if k > 0 {
				x.least, x.greatest = it.Took.Pc, it.Took.Pc
			}
		case "Took.Guess":
			if !s.Stop || k < len(s.Rob)-1 || len(s.Fetched) > 0 || it.Done && it.Why == 0 {
				x.least, x.greatest = it.Took.Guess, it.Took.Guess
			}
		case "No":
			x.greatest = s.Nos - 1
			if k < len(s.Rob)-1 {
				x.greatest = s.Rob[k+1].No - 1
			}
			if k > 0 {
				x.least = max(x.least, s.Rob[k-1].No+1)
			}
		}
		out = append(out, x)
	}
	return out
}

// waitingFields are the numbers of a valid core in the fetched instruction with that index.
func waitingFields(s impl.CorState, k int) []coreField {
	f := s.Fetched[k]
	pc := coreField{"Pc", func(s *impl.CorState) *int { return &s.Fetched[k].Pc }, f.Pc, f.Pc}
	if k+len(s.Rob) == 0 {
		pc.least, pc.greatest = 0, 65535
	}
	guess := coreField{"Guess", func(s *impl.CorState) *int { return &s.Fetched[k].Guess }, f.Guess, f.Guess}
	if s.Stop && k == len(s.Fetched)-1 {
		guess.least, guess.greatest = 0, 65535
	}
	w := coreField{"Word", func(s *impl.CorState) *int { return &s.Fetched[k].Word }, 0, 65535}
	at := coreField{"At", func(s *impl.CorState) *int { return &s.Fetched[k].At }, 0, 255}
	if f.Why != 0 {
		w.least, w.greatest, at.least, at.greatest = -1, -1, -1, -1
	}
	why := coreField{"Why", func(s *impl.CorState) *int { return &s.Fetched[k].Why }, f.Why, f.Why}
	return []coreField{pc, guess, w, at, why}
}

// coreFields are the numbers of a valid core, except for those of its predictor and its cache.
func coreFields(s impl.CorState) []coreField {
	out := partFields(s)
	for k := range s.Rob {
		out = append(out, entryFields(s, k)...)
	}
	for k := range s.Fetched {
		out = append(out, waitingFields(s, k)...)
	}
	return out
}

// exampleCores are valid, and differ in what is in flight.
func exampleCores(t *testing.T) []impl.CorState {
	t.Helper()
	empty := coreIn(scene(1, impl.CodInst{Kind: impl.CodWait}))
	return []impl.CorState{busyCore(t), barrenCore(t), walkingCore(t), empty, launched(t, empty, 1)}
}

func TestP54ExampleCores(t *testing.T) {
	s := busyCore(t)
	states := ""
	for _, it := range s.Rob {
		switch {
		case it.Done && it.Why != 0:
			states += "f"
		case it.Done:
			states += "d"
		default:
			states += "w"
		}
	}
	if states != "wddddfww" || len(s.Fetched) != 3 || s.Fetched[2].Why != impl.WhyTake || !s.Stop || s.Rob[3].From != 2 || s.Rob[4].From != -1 {
		t.Fatalf("%s: %+v", states, s)
	}
	s = barrenCore(t)
	if len(s.Rob) != 4 || s.Rob[1].Why != impl.WhyCode || s.Rob[3].Why != impl.WhyTake || !s.Stop {
		t.Fatalf("%+v", s)
	}
	s = walkingCore(t)
	if len(s.Rob) != 4 || len(s.Fetched) != 2 || s.Stop {
		t.Fatalf("%+v", s)
	}
}

// Of a valid core every number is changed for itself.
func TestP54OneNumberChanges(t *testing.T) {
	for _, s := range exampleCores(t) {
		coreValid(t, s, true)
		for _, f := range coreFields(s) {
			now := *f.place(&s)
			for _, value := range nearby(entryField{least: f.least, greatest: f.greatest}, now) {
				x := changedCore(s, func(x *impl.CorState) { *f.place(x) = value })
				if got := impl.CorOk(x); got != (f.least <= value && value <= f.greatest) {
					t.Fatalf("%+v: %s = %d instead of %d: %t", s, f.name, value, now, got)
				}
			}
		}
	}
}

// A value is available in the committed mapping, and in New if and only if the entry is executed; of a free register it does not matter.
func TestP54Availability(t *testing.T) {
	for _, s := range append(exampleCores(t), reached()[:100]...) {
		for p := range impl.PhyMany {
			x := changedCore(s, func(x *impl.CorState) { x.Nam.Here[p] = !x.Nam.Here[p] })
			coreValid(t, x, slices.Contains(s.Nam.Free, p))
		}
	}
}

// While Stop is set, the fetch address does not matter, and so it does if nothing is in flight.
func TestP54FetchAddress(t *testing.T) {
	for _, s := range exampleCores(t) {
		nothing := len(s.Rob)+len(s.Fetched) == 0
		for _, pc := range []int{0, 1, 77, 65535} {
			x := changedCore(s, func(x *impl.CorState) { x.Pc = pc })
			coreValid(t, x, nothing || s.Stop || pc == s.Pc)
			x.Stop = true
			coreValid(t, x, true)
		}
	}
	s := busyCore(t)
	last := s.Fetched[len(s.Fetched)-1]
	s.Stop = false
	coreValid(t, s, s.Pc == last.Guess)
	s.Pc = last.Guess
	coreValid(t, s, true)
}

// tooMany are cores that would be valid if the lists could be longer.
func tooMany(t *testing.T) []impl.CorState {
	t.Helper()
	full := launched(t, impl.CorNew(assembled(t, "addi r1 r1 1")), 8)
	entered := changedCore(full, func(s *impl.CorState) {
		it := s.Rob[7]
		it.Took, it.No = s.Fetched[0], it.No+1
		s.Nos++
		s.Rob, s.Fetched = append(s.Rob, it), s.Fetched[1:]
	})
	fetched := changedCore(full, func(s *impl.CorState) {
		f := s.Fetched[3]
		f.Pc, f.Guess = f.Guess, f.Guess+1
		s.Pc++
		s.Fetched = append(s.Fetched, f)
	})
	return []impl.CorState{entered, fetched}
}

func TestP54LongLists(t *testing.T) {
	full := launched(t, impl.CorNew(assembled(t, "addi r1 r1 1")), 8)
	if len(full.Rob) != impl.RobMost || len(full.Fetched) != impl.FchMost {
		t.Fatalf("%+v", full)
	}
	coreValid(t, full, true)
	for _, s := range tooMany(t) {
		coreValid(t, s, false)
		// One less of the oldest, and it would do.
		if len(s.Rob) > impl.RobMost {
			coreValid(t, changedCore(s, func(s *impl.CorState) { s.Rob = s.Rob[:8]; s.Fetched = nil; s.Pc = s.Rob[7].Took.Guess }), true)
		} else {
			coreValid(t, changedCore(s, func(s *impl.CorState) { s.Fetched = s.Fetched[:4]; s.Pc-- }), true)
		}
	}
}

// wrongParts are cores of which one part is not valid by itself.
func wrongParts(s impl.CorState) []impl.CorState {
	out := []impl.CorState{}
	for _, g := range append(invalidGuesses(), impl.GueState{}) {
		out = append(out, changedCore(s, func(x *impl.CorState) { x.Gue = g }))
	}
	for _, c := range append(invalidCaches(), impl.ChcState{}) {
		out = append(out, changedCore(s, func(x *impl.CorState) { x.Chc = c }))
	}
	for _, n := range append(invalidNames(), impl.NamState{}) {
		out = append(out, changedCore(s, func(x *impl.CorState) { x.Nam = n }))
	}
	for _, ctl := range [][]int{nil, {}, {0, 0, 0, 0}, {0, 0, 0, 0, 0, 0}, {0, 0, 0, 4, 0}, {-1, 0, 0, 0, 0}, {0, 65536, 0, 0, 0}, {0, 0, 0, -1, 0}} {
		out = append(out, changedCore(s, func(x *impl.CorState) { x.Ctl = ctl }))
	}
	for _, n := range notWords {
		out = append(out, changedCore(s, func(x *impl.CorState) { x.Stop, x.Pc = true, n }))
	}
	return out
}

// wrongFlights are cores of which the parts do not belong together.
func wrongFlights(t *testing.T) []impl.CorState {
	t.Helper()
	s := busyCore(t)
	out := tooMany(t)
	for _, change := range []func(x *impl.CorState){
		func(x *impl.CorState) { x.Nos = 7 },
		func(x *impl.CorState) { x.Nos = -1 },
		func(x *impl.CorState) { x.Rob[7].No, x.Rob[6].No = 6, 7 },
		func(x *impl.CorState) { x.Rob[7].No = 6 },
		func(x *impl.CorState) { x.Rob[0].No = -1 },
		func(x *impl.CorState) { x.Rob[6].Took.Guess++ },
		func(x *impl.CorState) { x.Rob[1].Next = 3 },
		func(x *impl.CorState) { x.Rob[7].Took.Pc++; x.Rob[6].Took.Guess++; x.Rob[7].Took.Guess++ },
		func(x *impl.CorState) { x.Fetched[0].Pc++ },
		func(x *impl.CorState) { x.Fetched = x.Fetched[1:] },
		func(x *impl.CorState) { x.Rob = x.Rob[:7] },
		func(x *impl.CorState) { x.Rob = x.Rob[1:] },
		func(x *impl.CorState) { x.Stop, x.Pc = false, 0 },
		func(x *impl.CorState) { x.Rob[6].A, x.Rob[6].B = x.Rob[6].B, x.Rob[6].A },
		func(x *impl.CorState) { x.Rob[2].A = 1 },
		func(x *impl.CorState) { x.Rob[6].Old = 1 },
		func(x *impl.CorState) { x.Rob[0].Old = 16 },
		func(x *impl.CorState) { x.Rob[0].New, x.Rob[3].New = x.Rob[3].New, x.Rob[0].New },
		func(x *impl.CorState) { x.Nam.Map[1], x.Nam.Map[2] = x.Nam.Map[2], x.Nam.Map[1] },
		func(x *impl.CorState) { x.Nam.Map[1], x.Rob[6].Old = x.Rob[6].Old, x.Nam.Map[1] },
		func(x *impl.CorState) { x.Nam.Free = x.Nam.Free[1:] },
		func(x *impl.CorState) { x.Nam.Free = nil },
		func(x *impl.CorState) { x.Nam.Free = append(x.Nam.Free, x.Nam.Free[0]) },
		func(x *impl.CorState) { x.Nam.Free = append(x.Nam.Free, x.Rob[0].Old) },
		func(x *impl.CorState) { x.Nam.Free[0] = x.Rob[0].Old },
		func(x *impl.CorState) { x.Nam.Free[0] = x.Nam.Map[3] },
		func(x *impl.CorState) { x.Nam.Here[x.Rob[0].New] = true },
		func(x *impl.CorState) { x.Nam.Here[x.Rob[7].New] = true },
		func(x *impl.CorState) { x.Nam.Here[x.Rob[5].New] = true },
		func(x *impl.CorState) { x.Nam.Here[x.Rob[1].New] = false },
		func(x *impl.CorState) { x.Nam.Here[x.Rob[0].Old] = false },
		func(x *impl.CorState) { x.Nam.Here[7] = false },
		func(x *impl.CorState) { x.Rob[0].Done = true },
		func(x *impl.CorState) { x.Rob[0].Done, x.Rob[0].Next = true, 1 },
		func(x *impl.CorState) { x.Rob[5].Done, x.Rob[5].Why = false, 0; x.Nam.Here[x.Rob[5].New] = true },
		func(x *impl.CorState) { x.Fetched[0].Why = impl.WhyTake },
		func(x *impl.CorState) { x.Fetched[2].Why = 0 },
	} {
		out = append(out, changedCore(s, change))
	}
	// Each physical register is there once, but the second entries of two registers have each other's old one.
	twice := launched(t, impl.CorNew(assembled(t, "addi r1 r0 1", "addi r2 r0 1", "addi r1 r0 1", "addi r2 r0 1")), 3)
	return append(out, changedCore(twice, func(x *impl.CorState) { x.Rob[2].Old, x.Rob[3].Old = x.Rob[3].Old, x.Rob[2].Old }))
}

// invalidCores has cores that are invalid for each of the reasons that there are.
func invalidCores(t *testing.T) []impl.CorState {
	t.Helper()
	out := append(wrongFlights(t), impl.CorState{}, impl.CorState{Nos: 1})
	return slices.Concat(out, wrongParts(busyCore(t)), wrongParts(impl.CorNew(nil)))
}

func TestP54InvalidCores(t *testing.T) {
	for _, s := range invalidCores(t) {
		coreValid(t, s, false)
	}
}

// stepsToNothing fails the test unless a cycle and a run of it have zero values.
func stepsToNothing(t *testing.T, s impl.CorState, in impl.CorIn) {
	t.Helper()
	before := copiedCore(s)
	if x, events := impl.CorStep(s, in); !noCore(x) || len(events) != 0 {
		t.Fatalf("CorStep(%+v, %+v) = %+v, %v", s, in, x, events)
	}
	if x, events := impl.CorRun(s, []impl.CorIn{in}); !noCore(x) || len(events) != 0 {
		t.Fatalf("CorRun(%+v, %+v) = %+v, %v", s, in, x, events)
	}
	if !sameCores(s, before) {
		t.Fatalf("the argument %+v is written to", before)
	}
}

func TestP54InvalidArguments(t *testing.T) {
	inputs := []impl.CorIn{impl.InAll(), {}, {Ring: true}, {Lay: true, At: 20, N: 7}}
	for k, s := range invalidCores(t) {
		stepsToNothing(t, s, inputs[k%4])
	}
	for _, in := range invalidInputs() {
		for _, s := range append(exampleCores(t), impl.CorState{}) {
			stepsToNothing(t, s, in)
		}
	}
}

func TestP58InvalidCoresAreNoMachine(t *testing.T) {
	for _, s := range invalidCores(t) {
		before := copiedCore(s)
		if p := impl.CorAbs(s); !nothing(p) || !sameCores(s, before) {
			t.Fatalf("CorAbs(%+v) = %+v", s, p)
		}
	}
}

// validInputs have each kind of input, up to its limits.
func validInputs() []impl.CorIn {
	out := []impl.CorIn{impl.InAll(), {Ring: true}}
	for _, picks := range [][]int{nil, {}, {0}, {1}, {math.MaxInt}, {0, 0}, {7, 3}, {math.MaxInt, math.MaxInt}} {
		for _, at := range []int{0, 1, 255} {
			for _, n := range []int{0, 1, 65535} {
				out = append(out, impl.CorIn{Ring: n == 1, Lay: true, At: at, N: n, Picks: picks})
			}
		}
		out = append(out, impl.CorIn{Picks: picks}, impl.CorIn{Ring: true, Picks: picks})
	}
	return out
}

// invalidInputs have one thing wrong each.
func invalidInputs() []impl.CorIn {
	out := []impl.CorIn{}
	for _, in := range validInputs() {
		for _, picks := range [][]int{{0, 0, 0}, {1, 2, 3}, make([]int, 100), {-1}, {math.MinInt}, {0, -1}, {-1, 0}, {-1, -1}} {
			out = append(out, impl.CorIn{Ring: in.Ring, Lay: in.Lay, At: in.At, N: in.N, Picks: picks})
		}
	}
	for _, picks := range [][]int{nil, {0}, {0, 0}} {
		for _, n := range notWords {
			out = append(out, impl.CorIn{Lay: true, At: 7, N: n, Picks: picks}, impl.CorIn{N: n, Picks: picks})
		}
		for _, n := range notPlaces {
			out = append(out, impl.CorIn{Lay: true, At: n, N: 7, Picks: picks}, impl.CorIn{At: n, Picks: picks})
		}
		for _, n := range []int{1, 7, 255} {
			out = append(out, impl.CorIn{N: n, Picks: picks}, impl.CorIn{At: n, Picks: picks}, impl.CorIn{Ring: true, At: n, N: n, Picks: picks})
		}
	}
	return out
}

func TestP69Inputs(t *testing.T) {
	for _, in := range validInputs() {
		inputValid(t, in, true)
	}
	for _, in := range invalidInputs() {
		inputValid(t, in, false)
	}
}

func TestP69ThirdSelection(t *testing.T) {
	r := newRandom()
	for _, s := range reached() {
		in := randomInput(r, s)
		inputValid(t, in, true)
		in.Picks = append(in.Picks, make([]int, 3-len(in.Picks))...)
		inputValid(t, in, false)
	}
}

func TestP69All(t *testing.T) {
	in := impl.InAll()
	if in.Ring || in.Lay || in.At != 0 || in.N != 0 || !slices.Equal(in.Picks, []int{0, 0}) {
		t.Fatalf("%+v", in)
	}
	in.Picks[0], in.Picks[1] = 7, 7
	in.Picks = append(in.Picks, 7)
	if x := impl.InAll(); !slices.Equal(x.Picks, []int{0, 0}) {
		t.Fatalf("two results share memory: %+v", x)
	}
}

func TestCoreConstants(t *testing.T) {
	if impl.CorMost != 200 {
		t.Fatal("CorMost:", impl.CorMost)
	}
}

func TestP53Start(t *testing.T) {
	all := make([]int, impl.MemMany)
	for k := range all {
		all[k] = 65535 - k
	}
	for _, words := range [][]int{nil, {}, {0}, {65535}, assembled(t, busyProgram...), all, all[:255]} {
		before := slices.Clone(words)
		s := impl.CorNew(words)
		coreValid(t, s, true)
		mem := make([]int, impl.MemMany)
		copy(mem, words)
		want := impl.CorState{Gue: impl.GueNew(), Nam: impl.NamNew(), Chc: impl.ChcNew(mem), Ctl: make([]int, impl.CtlMany)}
		if !sameCores(s, want) || !sameState(impl.CorAbs(s), impl.PlnNew(words)) || !slices.Equal(words, before) {
			t.Fatalf("CorNew(%v) = %+v", words, s)
		}
	}
}

func TestP53InvalidWords(t *testing.T) {
	lists := [][]int{make([]int, impl.MemMany+1), make([]int, 1000)}
	for _, n := range notWords {
		lists = append(lists, []int{n}, []int{0, n}, append(make([]int, 255), n))
	}
	for _, words := range lists {
		if s := impl.CorNew(words); !noCore(s) || impl.CorOk(s) {
			t.Fatalf("CorNew(%v) = %+v", words, s)
		}
	}
}

func TestP55PhysicalRegisters(t *testing.T) {
	for _, s := range append(exampleCores(t), reached()...) {
		conserved(t, s)
		for k := range s.Nam.Free {
			coreValid(t, changedCore(s, func(x *impl.CorState) { x.Nam.Free = slices.Delete(x.Nam.Free, k, k+1) }), false)
			coreValid(t, changedCore(s, func(x *impl.CorState) { x.Nam.Free = append(x.Nam.Free, x.Nam.Free[k]) }), false)
		}
		for _, it := range s.Rob {
			if it.D > 0 {
				coreValid(t, changedCore(s, func(x *impl.CorState) { x.Nam.Free = append(x.Nam.Free, it.Old) }), false)
				coreValid(t, changedCore(s, func(x *impl.CorState) { x.Nam.Free[0] = it.Old }), false)
			}
		}
		for _, p := range s.Nam.Map {
			coreValid(t, changedCore(s, func(x *impl.CorState) { x.Nam.Free = append(x.Nam.Free, p) }), false)
		}
	}
}

// The free list has an order, but any will do.
func TestP55AnyOrderOfTheFreeList(t *testing.T) {
	for _, s := range exampleCores(t) {
		coreValid(t, changedCore(s, func(x *impl.CorState) { slices.Reverse(x.Nam.Free) }), true)
	}
}

// runsAs fails the test unless a run comes to what its cycles come to, one by one.
func runsAs(t *testing.T, s impl.CorState, ins []impl.CorIn) {
	t.Helper()
	before := copiedCore(s)
	got, events := impl.CorRun(s, ins)
	want, all := s, []impl.PlnEvent{}
	for _, in := range ins {
		x, more := impl.CorStep(want, in)
		want, all = x, append(all, more...)
	}
	if !sameCores(got, want) || !slices.Equal(events, all) || !sameCores(s, before) {
		t.Fatalf("CorRun(%+v, %+v) =\n%+v, %v\nwant %+v, %v", before, ins, got, events, want, all)
	}
}

func TestP57RunsAreCycles(t *testing.T) {
	r := newRandom()
	for k, s := range reached() {
		ins := []impl.CorIn{}
		for range k % 30 {
			ins = append(ins, randomInput(r, s))
		}
		runsAs(t, s, ins)
	}
}

func TestP57LongestRun(t *testing.T) {
	s := impl.CorNew(assembled(t, "addi r1 r1 1", "jump r0 -2"))
	for many := impl.CorMost - 2; many <= impl.CorMost; many++ {
		runsAs(t, s, slices.Repeat([]impl.CorIn{impl.InAll()}, many))
	}
	for _, many := range []int{impl.CorMost + 1, impl.CorMost + 2, 1000} {
		if x, events := impl.CorRun(s, slices.Repeat([]impl.CorIn{impl.InAll()}, many)); !noCore(x) || len(events) != 0 {
			t.Fatalf("%d cycles: %+v, %v", many, x, events)
		}
	}
}

func TestP57NoCycles(t *testing.T) {
	for _, s := range exampleCores(t) {
		for _, ins := range [][]impl.CorIn{nil, {}} {
			if x, events := impl.CorRun(s, ins); !sameCores(x, s) || len(events) != 0 {
				t.Fatalf("CorRun(%+v, nil) = %+v, %v", s, x, events)
			}
		}
	}
}

func TestP57InvalidRuns(t *testing.T) {
	for _, in := range invalidInputs() {
		for place := range 3 {
			ins := slices.Insert([]impl.CorIn{impl.InAll(), {}}, place, in)
			if x, events := impl.CorRun(impl.CorNew(nil), ins); !noCore(x) || len(events) != 0 {
				t.Fatalf("CorRun(.., %+v) = %+v, %v", ins, x, events)
			}
		}
	}
	for _, s := range invalidCores(t) {
		if x, events := impl.CorRun(s, nil); !noCore(x) || len(events) != 0 {
			t.Fatalf("CorRun(%+v, nil) = %+v, %v", s, x, events)
		}
	}
}

func TestP58ArchitectureOfCores(t *testing.T) {
	r := newRandom()
	for _, s := range append(exampleCores(t), reached()...) {
		for _, x := range []impl.CorState{s, disturbed(r, s)} {
			before := copiedCore(x)
			p := impl.CorAbs(x)
			if !impl.PlnOk(p) || !sameState(p, architecture(x)) || !sameCores(x, before) {
				t.Fatalf("CorAbs(%+v) = %+v, want %+v", x, p, architecture(x))
			}
			other := changedCore(x, func(x *impl.CorState) { x.Gue = randomGuesses(r) })
			coreValid(t, other, true)
			if !sameState(impl.CorAbs(other), p) {
				t.Fatalf("the predictor of %+v changes %+v", x, p)
			}
		}
	}
}

// roomyCore is the same core with spare capacity behind every slice.
func roomyCore(s impl.CorState) impl.CorState {
	s.Fetched, s.Rob, s.Ctl = withRoom(s.Fetched), withRoom(s.Rob), withRoom(s.Ctl)
	s.Gue = impl.GueState{Slots: withRoom(s.Gue.Slots), Calls: withRoom(s.Gue.Calls)}
	s.Nam, s.Chc = roomyNames(s.Nam), roomyCache(s.Chc)
	return s
}

// wholeCore is all memory of a core, spare capacity included, as a core.
func wholeCore(s impl.CorState) impl.CorState {
	s.Fetched, s.Rob, s.Ctl = s.Fetched[:cap(s.Fetched)], s.Rob[:cap(s.Rob)], s.Ctl[:cap(s.Ctl)]
	s.Gue = impl.GueState{Slots: s.Gue.Slots[:cap(s.Gue.Slots)], Calls: s.Gue.Calls[:cap(s.Gue.Calls)]}
	s.Nam, s.Chc = wholeNames(s.Nam), wholeCache(s.Chc)
	return s
}

// spoilCore writes to all memory of a core.
func spoilCore(s impl.CorState) {
	all := wholeCore(s)
	for k := range all.Fetched {
		all.Fetched[k] = impl.FchItem{Pc: -7, Why: -7}
	}
	for k := range all.Rob {
		all.Rob[k] = impl.RobItem{No: -7, Why: -7}
	}
	spoilWords(all.Ctl)
	spoilGuesses(s.Gue)
	spoilNames(s.Nam)
	spoilCache(s.Chc)
}

// ownLists checks that no two slices of one core share memory. Only those of numbers could.
func ownLists(t *testing.T, s impl.CorState) {
	t.Helper()
	listsApart(t, append(wordLists(s.Chc), s.Ctl, s.Gue.Calls, s.Nam.Map, s.Nam.Free, s.Nam.Vals)...)
}

// coresApart checks that results share no memory with the argument, and that the slices of one share none with each other.
func coresApart(t *testing.T, s impl.CorState, call func(impl.CorState) impl.CorState) {
	t.Helper()
	handling[impl.CorState]{sameCores, copiedCore, roomyCore, wholeCore, spoilCore}.apart(t, s, call)
	ownLists(t, call(roomyCore(s)))
}

func TestP54ResultsShareNoMemory(t *testing.T) {
	r := newRandom()
	for _, s := range append(exampleCores(t), reached()...) {
		in := randomInput(r, s)
		coresApart(t, s, func(s impl.CorState) impl.CorState {
			x, _ := impl.CorStep(s, in)
			return x
		})
		// A cycle in which little happens.
		coresApart(t, s, func(s impl.CorState) impl.CorState {
			x, _ := impl.CorStep(s, impl.CorIn{})
			return x
		})
	}
}

func TestP57ResultsShareNoMemory(t *testing.T) {
	r := newRandom()
	for k, s := range append(exampleCores(t), reached()[:200]...) {
		ins := []impl.CorIn{}
		for range k % 7 {
			ins = append(ins, randomInput(r, s))
		}
		coresApart(t, s, func(s impl.CorState) impl.CorState {
			x, _ := impl.CorRun(s, ins)
			return x
		})
	}
}

func TestP57InputsAreNotKept(t *testing.T) {
	for _, s := range exampleCores(t) {
		picks := [][]int{withRoom([]int{7, 3}), withRoom([]int{1}), withRoom([]int{})}
		ins, before := []impl.CorIn{}, []int{}
		for _, list := range picks {
			ins, before = append(ins, impl.CorIn{Picks: list}), append(before, list[:cap(list)]...)
		}
		x, _ := impl.CorRun(s, ins)
		want, after := copiedCore(x), []int{}
		for _, list := range picks {
			after = append(after, list[:cap(list)]...)
			spoilWords(list[:cap(list)])
		}
		if !slices.Equal(before, after) || !sameCores(x, want) {
			t.Fatalf("the picks %v are written to, or kept", after)
		}
	}
}

func TestP53ResultsShareNoMemory(t *testing.T) {
	words := withRoom(assembled(t, busyProgram...))
	before := slices.Clone(words[:cap(words)])
	s, other := impl.CorNew(words), impl.CorNew(words)
	want := copiedCore(s)
	spoilCore(other)
	if !sameCores(s, want) || !slices.Equal(words[:cap(words)], before) {
		t.Fatal("two results share memory, or one with the words")
	}
	spoilWords(words[:cap(words)])
	if !sameCores(s, want) {
		t.Fatal("the result changes with the words")
	}
	ownLists(t, s)
}

func TestP58ResultsShareNoMemory(t *testing.T) {
	for _, s := range append(exampleCores(t), reached()[:100]...) {
		arg := roomyCore(s)
		before := copiedCore(wholeCore(arg))
		p, other := impl.CorAbs(arg), impl.CorAbs(arg)
		want := copied(p)
		spoil(other)
		if !sameState(p, want) || !sameCores(wholeCore(arg), before) {
			t.Fatalf("%+v: two results share memory, or one with the argument", s)
		}
		spoilCore(arg)
		if !sameState(p, want) {
			t.Fatalf("%+v: the result changes with the argument", s)
		}
	}
}
