package tests

import (
	"math"
	"slices"
	"testing"

	"loop.example/harbinger/impl"
)

func TestP34EventsAreThoseOfTheSteps(t *testing.T) {
	r := newRandom()
	for k := range 20 {
		p := randomState(r, k%4)
		before := copied(p)
		s, events := copied(p), []impl.PlnEvent{}
		for n := range impl.CorMost + 1 {
			got, all := impl.PlnRun(p, n)
			if !sameState(got, s) || !slices.Equal(all, events) || !sameState(p, before) {
				t.Fatalf("PlnRun(%v, %d) = %v, %v, want %v, %v", p, n, got, all, s, events)
			}
			x, e := impl.PlnStep(s, false)
			s, events = x, append(events, e)
		}
	}
}

func TestP34RunsCompose(t *testing.T) {
	r := newRandom()
	for k := range 40 {
		p := randomState(r, k%4)
		n, m := r.IntN(100), r.IntN(101)
		whole, all := impl.PlnRun(p, n+m)
		half, first := impl.PlnRun(p, n)
		rest, second := impl.PlnRun(half, m)
		if !sameState(whole, rest) || !slices.Equal(all, slices.Concat(first, second)) {
			t.Fatalf("%d and %d instructions of %v", n, m, p)
		}
	}
}

func TestP34NoInstructions(t *testing.T) {
	p := scene(1, impl.CodInst{Kind: impl.CodWait})
	for _, n := range []int{0, -1, -200, math.MinInt} {
		s, events := impl.PlnRun(p, n)
		if !sameState(s, p) || len(events) != 0 {
			t.Fatalf("PlnRun(p, %d) = %v, %v", n, s, events)
		}
		before := copied(p)
		spoil(s)
		if !sameState(p, before) {
			t.Fatal("the result is the argument")
		}
	}
}

func TestP34InvalidArguments(t *testing.T) {
	p := scene(0, impl.CodInst{Kind: impl.CodWait})
	for _, n := range []int{impl.CorMost + 1, 65536, math.MaxInt} {
		if s, events := impl.PlnRun(p, n); !nothing(s) || len(events) != 0 {
			t.Fatalf("PlnRun(p, %d) = %v, %v", n, s, events)
		}
	}
	for _, p := range invalidStates() {
		for _, n := range []int{-1, 0, 1} {
			if s, events := impl.PlnRun(p, n); !nothing(s) || len(events) != 0 {
				t.Fatalf("PlnRun(%v, %d) = %v, %v", p, n, s, events)
			}
		}
	}
}

func TestP34ResultsShareNoMemory(t *testing.T) {
	r := newRandom()
	for k := range 8 {
		for _, n := range []int{-1, 0, 1, 2, 30, impl.CorMost} {
			plainApart(t, randomState(r, k%4), func(p impl.PlnState) impl.PlnState {
				x, events := impl.PlnRun(p, n)
				_, others := impl.PlnRun(p, n)
				want := slices.Clone(others)
				spoilEvents(events)
				if !slices.Equal(others, want) {
					t.Fatalf("PlnRun(%v, %d): the events of two results share memory", p, n)
				}
				return x
			})
		}
	}
}

// roomyState is the same state with spare capacity behind every slice.
func roomyState(p impl.PlnState) impl.PlnState {
	return impl.PlnState{Pc: p.Pc, Regs: withRoom(p.Regs), Ctl: withRoom(p.Ctl), Mem: withRoom(p.Mem)}
}

// wholeState is all memory of a state as a state.
func wholeState(p impl.PlnState) impl.PlnState {
	return impl.PlnState{Pc: p.Pc, Regs: p.Regs[:cap(p.Regs)], Ctl: p.Ctl[:cap(p.Ctl)], Mem: p.Mem[:cap(p.Mem)]}
}

// spoilEvents writes to all of a list, and to its spare capacity.
func spoilEvents(events []impl.PlnEvent) {
	for k := range events[:cap(events)] {
		events[:cap(events)][k] = impl.PlnEvent{Pc: -7, Why: -7}
	}
}

// plainApart checks that the machines which a call returns share no memory with its argument, with each other or within themselves.
func plainApart(t *testing.T, p impl.PlnState, call func(impl.PlnState) impl.PlnState) {
	t.Helper()
	handling[impl.PlnState]{sameState, copied, roomyState, wholeState, spoil}.apart(t, p, call)
	x := call(roomyState(p))
	listsApart(t, x.Regs, x.Ctl, x.Mem)
}

// followed is what FolStep is to return for valid arguments.
func followed(p impl.PlnState, in impl.CorIn, events []impl.PlnEvent) (impl.PlnState, bool) {
	if in.Lay {
		p = impl.PlnLay(p, in.At, in.N)
	}
	for _, e := range events {
		x, did := impl.PlnStep(p, e.Why == impl.WhyRing)
		if did != e {
			return x, false
		}
		p = x
	}
	return p, true
}

// follows fails the test unless FolStep comes to that state, with that answer.
func follows(t *testing.T, p impl.PlnState, in impl.CorIn, events []impl.PlnEvent, want impl.PlnState, right bool) {
	t.Helper()
	got, ok := impl.FolStep(p, in, events)
	if ok != right || !sameState(got, want) {
		t.Fatalf("FolStep(%v, %+v, %+v) = %v, %t, want %v, %t", p, in, events, got, ok, want, right)
	}
}

// otherEvents differ from an event in a single field each.
func otherEvents(e impl.PlnEvent) []impl.PlnEvent {
	out := []impl.PlnEvent{}
	for _, part := range []func(*impl.PlnEvent) *int{
		func(e *impl.PlnEvent) *int { return &e.Pc },
		func(e *impl.PlnEvent) *int { return &e.Word },
		func(e *impl.PlnEvent) *int { return &e.Why },
		func(e *impl.PlnEvent) *int { return &e.D },
		func(e *impl.PlnEvent) *int { return &e.Val },
		func(e *impl.PlnEvent) *int { return &e.Addr },
		func(e *impl.PlnEvent) *int { return &e.Data },
	} {
		for _, by := range []int{-65536, -1, 1, 65536, math.MinInt} {
			other := e
			*part(&other) += by
			out = append(out, other)
		}
	}
	return out
}

// differs checks each event with one field changed, as the only wrong one of a cycle.
func differs(t *testing.T, p impl.PlnState, in impl.CorIn, events []impl.PlnEvent) {
	t.Helper()
	for k, e := range events {
		before, right := followed(p, in, events[:k])
		if !right {
			t.Fatalf("%+v are not the steps from %v", events, p)
		}
		for _, other := range otherEvents(e) {
			list := slices.Clone(events)
			list[k] = other
			// No step is taken behind the first one that differs.
			after, _ := impl.PlnStep(before, other.Why == impl.WhyRing)
			follows(t, p, in, list, after, false)
		}
	}
}

// followable runs a cycle of a core, and checks that an in-order machine follows it.
func followable(t *testing.T, s impl.CorState, in impl.CorIn) (impl.CorState, []impl.PlnEvent) {
	t.Helper()
	x, events := impl.CorStep(s, in)
	p, after := impl.CorAbs(s), impl.CorAbs(x)
	follows(t, p, in, events, after, true)
	next := impl.PlnState{}
	if len(events) < 2 {
		next, _ = impl.PlnStep(after, false)
	}
	for _, wrong := range []impl.PlnEvent{{}, {Pc: after.Pc, Word: -1, Addr: -1}} {
		follows(t, p, in, append(slices.Clone(events), wrong), next, false)
	}
	return x, events
}

func TestP68TheInOrderMachineFollowsCycles(t *testing.T) {
	r := newRandom()
	seen := map[string]int{}
	for k := range 60 {
		s := startedCore(r, k)
		for range 150 {
			in := randomInput(r, s)
			x, events := followable(t, s, in)
			if r.IntN(8) == 0 {
				differs(t, impl.CorAbs(s), in, events)
			}
			seen[[]string{"no event", "one event", "two events"}[len(events)]]++
			for _, e := range events {
				switch {
				case e.Why == impl.WhyRing && in.Lay:
					seen["ring and lay"]++
				case e.Why == impl.WhyRing:
					seen["ring"]++
				case in.Lay:
					seen["lay"]++
				}
			}
			s = x
		}
	}
	for _, what := range []string{"no event", "one event", "two events", "ring", "lay", "ring and lay"} {
		if seen[what] < 5 {
			t.Fatalf("%s is rare in %v", what, seen)
		}
	}
}

func TestP68TheInOrderMachineFollowsUnreachedCores(t *testing.T) {
	r := newRandom()
	for k := range 80 {
		s := coreIn(randomState(r, k%4))
		for range 20 {
			s, _ = followable(t, s, randomInput(r, s))
		}
	}
}

// plainEvents are the events of some steps from a state.
func plainEvents(t *testing.T, p impl.PlnState, n int) []impl.PlnEvent {
	t.Helper()
	out := []impl.PlnEvent{}
	for range n {
		x, e := step(t, p, false)
		p, out = x, append(out, e)
	}
	return out
}

func TestP68OneFieldDiffers(t *testing.T) {
	r := newRandom()
	for k := range 40 {
		p := randomState(r, k%4)
		for n := range 3 {
			for _, in := range []impl.CorIn{impl.InAll(), {Ring: true}, {Ring: true, Picks: []int{3, math.MaxInt}}} {
				events := plainEvents(t, p, n)
				after, _ := impl.PlnRun(p, n)
				follows(t, p, in, events, after, true)
				differs(t, p, in, events)
			}
			in := impl.CorIn{Lay: true, At: r.IntN(256), N: r.IntN(65536)}
			differs(t, p, in, plainEvents(t, impl.PlnLay(p, in.At, in.N), n))
		}
	}
}

// Both events are wrong, but only the first one is executed.
func TestP68OnlyTheFirstDifferenceCounts(t *testing.T) {
	p := impl.PlnNew(assembled(t, "addi r1 r0 5", "save r0 r1 30", "addi r2 r0 6"))
	events := plainEvents(t, p, 3)
	after, _ := impl.PlnRun(p, 1)
	if after.Pc != 1 || after.Regs[1] != 5 || after.Mem[30] != 0 {
		t.Fatal(after)
	}
	for _, list := range [][]impl.PlnEvent{{events[1], events[0]}, {events[1], events[1]}, {events[1], events[2]}, {events[2]}, {{}}, {{}, {}}} {
		follows(t, p, impl.InAll(), list, after, false)
	}
	// The first one is right.
	after, _ = impl.PlnRun(p, 2)
	for _, wrong := range []impl.PlnEvent{events[0], events[2], {}} {
		follows(t, p, impl.InAll(), []impl.PlnEvent{events[0], wrong}, after, false)
	}
}

func TestP68CyclesWithoutEvents(t *testing.T) {
	r := newRandom()
	for k := range 40 {
		p := randomState(r, k%4)
		for _, in := range validInputs() {
			want := copied(p)
			if in.Lay {
				want.Mem[in.At] = in.N
			}
			follows(t, p, in, nil, want, true)
			follows(t, p, in, []impl.PlnEvent{}, want, true)
		}
	}
}

// ringing is the event of an interrupt at an address.
func ringing(pc int) impl.PlnEvent {
	return impl.PlnEvent{Pc: pc, Word: -1, Why: impl.WhyRing, Addr: -1}
}

func TestP68InterruptsInUserMode(t *testing.T) {
	p := userState(t, "addi r1 r0 5", "addi r1 r1 5")
	events := plainEvents(t, p, 1)
	trap, _ := impl.PlnStep(p, true)
	ran, _ := impl.PlnRun(p, 1)
	ranAndTrapped, _ := impl.PlnStep(ran, true)
	if !slices.Equal(trap.Ctl, []int{0, impl.WhyRing, userTable, 2, 0}) || ran.Regs[1] != 5 || !slices.Equal(ranAndTrapped.Ctl, []int{1, impl.WhyRing, userTable, 2, 0}) {
		t.Fatal(trap, ran, ranAndTrapped)
	}
	// The cause of the event decides, and not Ring.
	for _, in := range []impl.CorIn{{}, {Ring: true}, {Picks: []int{1}}, {Ring: true, Picks: []int{0, 0}}} {
		follows(t, p, in, []impl.PlnEvent{ringing(0)}, trap, true)
		follows(t, p, in, events, ran, true)
		follows(t, p, in, []impl.PlnEvent{events[0], ringing(1)}, ranAndTrapped, true)
		// The interrupt is at another address.
		follows(t, p, in, []impl.PlnEvent{ringing(1)}, trap, false)
		follows(t, p, in, []impl.PlnEvent{events[0], ringing(0)}, ranAndTrapped, false)
		follows(t, p, in, []impl.PlnEvent{ringing(1), events[0]}, trap, false)
		// A trap of another kind at that address is none that rings.
		other := ringing(0)
		other.Why = impl.WhyTake
		follows(t, p, in, []impl.PlnEvent{other}, ran, false)
	}
}

func TestP68InterruptsInSupervisorMode(t *testing.T) {
	p := impl.PlnNew(assembled(t, "addi r1 r0 5", "addi r1 r1 5"))
	events := plainEvents(t, p, 2)
	one, _ := impl.PlnRun(p, 1)
	two, _ := impl.PlnRun(p, 2)
	for _, in := range []impl.CorIn{{}, {Ring: true}} {
		follows(t, p, in, events, two, true)
		follows(t, p, in, []impl.PlnEvent{ringing(0)}, one, false)
		follows(t, p, in, []impl.PlnEvent{ringing(0), events[1]}, one, false)
		follows(t, p, in, []impl.PlnEvent{events[0], ringing(1)}, two, false)
	}
}

// A step with a failed fetch has the words of an interrupt, but for the cause.
func TestP68FailedFetchesAreNoInterrupts(t *testing.T) {
	p := userState(t, "jump r0 63")
	p.Pc = 64
	events := plainEvents(t, p, 1)
	if events[0] != (impl.PlnEvent{Pc: 64, Word: -1, Why: impl.WhyTake, Addr: -1}) {
		t.Fatal(events)
	}
	after, _ := impl.PlnRun(p, 1)
	follows(t, p, impl.CorIn{Ring: true}, events, after, true)
	rung, _ := impl.PlnStep(p, true)
	follows(t, p, impl.CorIn{Ring: true}, []impl.PlnEvent{ringing(64)}, rung, true)
}

func TestP68ExternalWriteAheadOfALoad(t *testing.T) {
	p := impl.PlnNew(assembled(t, "load r1 r0 30", "load r2 r0 30"))
	in := impl.CorIn{Lay: true, At: 30, N: 777}
	fresh, stale := plainEvents(t, impl.PlnLay(p, 30, 777), 2), plainEvents(t, p, 2)
	if fresh[0].Val != 777 || fresh[1].Val != 777 || stale[0].Val != 0 {
		t.Fatal(fresh, stale)
	}
	laid := impl.PlnLay(p, 30, 777)
	one, _ := impl.PlnRun(laid, 1)
	two, _ := impl.PlnRun(laid, 2)
	if two.Regs[1] != 777 || two.Regs[2] != 777 || two.Mem[30] != 777 {
		t.Fatal(two)
	}
	follows(t, p, in, fresh[:1], one, true)
	follows(t, p, in, fresh, two, true)
	follows(t, p, in, stale, one, false)
	follows(t, p, in, []impl.PlnEvent{fresh[0], stale[1]}, two, false)
	// The cycle behind the one of the write has the same word, too.
	follows(t, laid, impl.InAll(), fresh, two, true)
	early, _ := impl.PlnRun(p, 1)
	follows(t, p, impl.InAll(), fresh, early, false)
}

func TestP68ExternalWriteAheadOfAFetch(t *testing.T) {
	p := impl.PlnNew(assembled(t, "addi r1 r0 1", "addi r2 r0 2"))
	for at := range 2 {
		in := impl.CorIn{Lay: true, At: at, N: assembled(t, "addi r3 r0 3")[0]}
		laid := impl.PlnLay(p, in.At, in.N)
		fresh, stale := plainEvents(t, laid, 2), plainEvents(t, p, 2)
		two, _ := impl.PlnRun(laid, 2)
		if two.Regs[3] != 3 || two.Regs[1+at] != 0 || two.Mem[at] != in.N {
			t.Fatal(two)
		}
		follows(t, p, in, fresh, two, true)
		stopped, _ := impl.PlnRun(laid, 1+at)
		follows(t, p, in, stale, stopped, false)
	}
}

func TestP68ExternalWriteToThePageTable(t *testing.T) {
	p := userState(t, "addi r1 r0 1")
	// The page of the instruction loses its frame, or becomes another one.
	for _, entry := range []int{0, 32, 16 + 1, 16 + 32 + 2} {
		in := impl.CorIn{Lay: true, At: userTable, N: entry}
		laid := impl.PlnLay(p, userTable, entry)
		after, _ := impl.PlnRun(laid, 1)
		fresh, stale := plainEvents(t, laid, 1), plainEvents(t, p, 1)
		if fresh[0] == stale[0] {
			t.Fatal(fresh, stale)
		}
		follows(t, p, in, fresh, after, true)
		follows(t, p, in, stale, after, false)
		// An interrupt in that cycle is behind the write, and ahead of the fetch.
		rung, _ := impl.PlnStep(laid, true)
		follows(t, p, in, []impl.PlnEvent{ringing(0)}, rung, true)
	}
}

// refused fails the test unless FolStep returns nothing.
func refused(t *testing.T, p impl.PlnState, in impl.CorIn, events []impl.PlnEvent) {
	t.Helper()
	follows(t, p, in, events, impl.PlnState{}, false)
}

func TestP68InvalidStates(t *testing.T) {
	events := plainEvents(t, scene(0, impl.CodInst{Kind: impl.CodWait}), 2)
	for _, p := range invalidStates() {
		for n := range 3 {
			refused(t, p, impl.InAll(), events[:n])
			refused(t, p, impl.CorIn{Ring: true, Lay: true, At: 7, N: 9}, events[:n])
		}
	}
}

func TestP68InvalidInputs(t *testing.T) {
	for _, how := range modes {
		p := scene(how, impl.CodInst{Kind: impl.CodWait})
		events := plainEvents(t, p, 2)
		for _, in := range invalidInputs() {
			for n := range 3 {
				refused(t, p, in, events[:n])
			}
			refused(t, p, in, []impl.PlnEvent{{}})
		}
	}
}

func TestP68TooManyEvents(t *testing.T) {
	for _, how := range modes {
		p := scene(how, impl.CodInst{Kind: impl.CodWait})
		events := plainEvents(t, p, 20)
		after, _ := impl.PlnRun(p, 2)
		follows(t, p, impl.InAll(), events[:2], after, true)
		for n := 3; n <= len(events); n++ {
			refused(t, p, impl.InAll(), events[:n])
			refused(t, p, impl.CorIn{Lay: true, At: 200, N: 5}, events[:n])
			refused(t, p, impl.InAll(), make([]impl.PlnEvent, n))
		}
	}
}

func TestP68ResultsShareNoMemory(t *testing.T) {
	r := newRandom()
	for k := range 12 {
		p := randomState(r, k%4)
		for _, in := range []impl.CorIn{{}, {Ring: true, Picks: withRoom([]int{1, 2})}, {Lay: true, At: 255, N: 9, Picks: withRoom([]int{3})}} {
			after, _ := followed(p, in, nil)
			events := withRoom(plainEvents(t, after, 2))
			wrong := withRoom([]impl.PlnEvent{events[0], {}})
			for _, list := range [][]impl.PlnEvent{nil, events[:0], events[:1], events, wrong[1:], wrong} {
				picks, all := slices.Clone(in.Picks[:cap(in.Picks)]), slices.Clone(list[:cap(list)])
				plainApart(t, p, func(p impl.PlnState) impl.PlnState {
					x, _ := impl.FolStep(p, in, list)
					return x
				})
				if !slices.Equal(in.Picks[:cap(in.Picks)], picks) || !slices.Equal(list[:cap(list)], all) {
					t.Fatalf("the inputs %+v or the events %+v are written to", in, list)
				}
			}
		}
	}
}

// followsRun fails the test unless FolRun gives that number.
func followsRun(t *testing.T, words []int, ins []impl.CorIn, want int) {
	t.Helper()
	if got := impl.FolRun(words, ins); got != want {
		t.Fatalf("FolRun(%v, %+v) = %d, want %d", words, ins, got, want)
	}
}

// recorded are the inputs of a run of some words, of which every cycle can be followed.
func recorded(t *testing.T, words []int, cycles int, choose func(s impl.CorState, n int) impl.CorIn) []impl.CorIn {
	t.Helper()
	out := []impl.CorIn{}
	s, p := impl.CorNew(words), impl.PlnNew(words)
	for n := range cycles {
		in := choose(s, n)
		x, events := impl.CorStep(s, in)
		p = follow(t, p, in, events)
		if !sameState(p, impl.CorAbs(x)) {
			t.Fatalf("cycle %d of %v: %v, want %v", n, words, impl.CorAbs(x), p)
		}
		follows(t, impl.CorAbs(s), in, events, p, true)
		s, out = x, append(out, in)
	}
	return out
}

// followedPrograms are words from the address 0 on, in both modes.
func followedPrograms(t *testing.T) [][]int {
	t.Helper()
	return [][]int{
		nil,
		assembled(t, "addi r1 r0 3", "addi r1 r1 -1", "eq r1 r0 1", "jump r0 -3", "sys 5"),
		assembled(t, "addi r1 r0 7", "lui r2 5", "mul r3 r1 r2", "sub r4 r3 r1", "shl r5 r4 r1", "xor r6 r5 r2", "lt r6 r5 1", "and r7 r6 r5", "or r7 r7 r1", "jump r0 -9"),
		assembled(t, "addi r1 r0 20", "save r1 r1 9", "load r2 r1 9", "addi r1 r2 1", "save r1 r2 -3", "swap r3 r1 r2", "load r4 r1 -3", "lt r4 r1 -6", "jump r0 -9"),
		assembled(t, "jump r7 7", "addi r1 r1 1", "jump r7 5", "lt r1 r2 -4", "addi r2 r0 9", "jump r0 -6", "wait", "wait", "addi r6 r7 0", "jump r7 2", "addi r7 r6 0", "call r0 r7 0", "addi r3 r3 1", "call r0 r7 0"),
		assembled(t, "load r1 r0 7", "addi r2 r2 1", "addi r3 r3 1", "save r0 r1 1", "addi r1 r1 1", "lt r2 r1 -6", "sys 3", "addi r4 r2 5", "get r5 0", "get r6 1", "set r0 0", "back"),
		countingProgram(t),
	}
}

func TestP5RunsAreFollowed(t *testing.T) {
	r := newRandom()
	for _, words := range followedPrograms(t) {
		for _, p := range pickers() {
			for _, often := range []int{0, 20, 5} {
				ins := recorded(t, words, 120, func(s impl.CorState, n int) impl.CorIn {
					in := impl.CorIn{Picks: p.picks(s, n)}
					if often == 0 {
						return in
					}
					in.Ring = r.IntN(often) == 0
					if r.IntN(often) == 0 {
						in.Lay, in.At, in.N = true, placeInFlight(r, s), impl.CodWord(randomInstruction(r))
					}
					return in
				})
				followsRun(t, words, ins, -1)
			}
		}
	}
}

func TestP5RandomRunsAreFollowed(t *testing.T) {
	r := newRandom()
	for k := range 60 {
		words := randomWords(r, r.IntN(257))
		if k%2 == 0 {
			words = randomUserWords(r)
		}
		ins := recorded(t, words, 1+r.IntN(impl.CorMost), func(s impl.CorState, n int) impl.CorIn { return randomInput(r, s) })
		followsRun(t, words, ins, -1)
		wrong := invalidInputs()
		for range 4 {
			at := r.IntN(len(ins))
			list := slices.Clone(ins)
			list[at] = wrong[r.IntN(len(wrong))]
			followsRun(t, words, list, at)
		}
	}
}

func TestP5NoCycles(t *testing.T) {
	for _, words := range followedPrograms(t) {
		followsRun(t, words, nil, -1)
		followsRun(t, words, []impl.CorIn{}, -1)
	}
}

func TestP5InvalidCycles(t *testing.T) {
	words := assembled(t, "addi r1 r0 3", "addi r1 r1 -1", "jump r0 -2")
	for _, wrong := range invalidInputs() {
		for _, at := range []int{0, 1, 4, 8} {
			ins := slices.Repeat([]impl.CorIn{impl.InAll()}, 9)
			ins[at] = wrong
			followsRun(t, words, ins, at)
			// The first invalid cycle counts.
			ins[8] = wrong
			followsRun(t, words, ins, at)
		}
	}
}

func TestP5InvalidWords(t *testing.T) {
	for _, words := range [][]int{make([]int, impl.MemMany+1), {-1}, {0, impl.WrdTop}, append(make([]int, 255), math.MinInt)} {
		if impl.CorOk(impl.CorNew(words)) {
			t.Fatal(words)
		}
		followsRun(t, words, nil, 0)
		followsRun(t, words, []impl.CorIn{impl.InAll(), {}}, 0)
		followsRun(t, words, []impl.CorIn{impl.InAll(), {Picks: []int{-1}}}, 0)
		followsRun(t, words, make([]impl.CorIn, impl.CorMost+1), 0)
	}
}

func TestP5LongestRun(t *testing.T) {
	words := assembled(t, "addi r1 r1 1", "jump r0 -2")
	ins := slices.Repeat([]impl.CorIn{impl.InAll()}, impl.CorMost)
	followsRun(t, words, ins, -1)
	last := slices.Clone(ins)
	last[impl.CorMost-1].N = 1
	followsRun(t, words, last, impl.CorMost-1)
	// One cycle more is too many, whether all of them are valid or not.
	followsRun(t, words, append(slices.Clone(ins), impl.InAll()), 0)
	followsRun(t, words, append(slices.Clone(last), impl.InAll()), 0)
	followsRun(t, words, append(slices.Clone(ins), impl.CorIn{N: 1}), 0)
	followsRun(t, words, slices.Repeat(ins, 5), 0)
}

func TestP5ArgumentsAreNotWrittenTo(t *testing.T) {
	r := newRandom()
	words := withRoom(randomUserWords(r)[:200])
	ins := recorded(t, words, 60, func(s impl.CorState, n int) impl.CorIn {
		in := randomInput(r, s)
		in.Picks = withRoom(in.Picks)
		return in
	})
	same := slices.Clone(words[:cap(words)])
	picks := [][]int{}
	for _, in := range ins {
		picks = append(picks, slices.Clone(in.Picks[:cap(in.Picks)]))
	}
	followsRun(t, words, ins, -1)
	if !slices.Equal(words[:cap(words)], same) {
		t.Fatal("the words are written to")
	}
	for k, in := range ins {
		if !slices.Equal(in.Picks[:cap(in.Picks)], picks[k]) {
			t.Fatal("the inputs are written to")
		}
	}
}
